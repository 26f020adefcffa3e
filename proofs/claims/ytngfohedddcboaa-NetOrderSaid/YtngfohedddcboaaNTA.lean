/-
  Net: the reference: Take, Drop, Twice.
-/
import Derived.Test.YtngfohedddcboaaNT9
namespace Go.Proofs.Ytngfohedddcboaa
open Go.RowKit Go Go.Sort Go.Lib Go.Maps
set_option linter.unusedVariables false
set_option maxRecDepth 20000

set_option maxRecDepth 100000 in
set_option maxHeartbeats 6400000 in
theorem rntwice_c {w : World} {g nn : Nat} {q : Nt} {F : Nat → Prop} (hk : Nk w 60 g q F) (ho : q.Ok nn) (hnn : nn ≤ 100000) (i : Int) : Calls Try.prog 26 #[.pointer (some ⟨g, 0, none⟩), .int .i64 i] w (NPost 60 g F (.int .i64 (q.twice i).1) (q.twice i).2 w) := by
  have HLK := Lib.hid (rnlook_c hk i)
  have HK := Lib.hid hk
  unfold LkPost at HLK
  have HCB := Lib.hid (show 0 ≤ q.c3 ∧ q.c3 ≤ 100000 from by have := ho.b3; omega)
  have hm1 := ho.m1
  have hml := ho.len
  have H64 := Lib.hid (show q.l.length ≤ 64 from by omega)
  obtain ⟨v, h, rfl⟩ := hk
  obtain ⟨va, cap, hv, -⟩ := h.sl
  obtain ⟨n, hn⟩ : ∃ z, q.l.length = z := ⟨_, rfl⟩
  unfold Nt.twice
  rw [hn]
  have HH := Lib.hid h
  have HV := Lib.hid (show v = .slice va n cap from by rw [hv, hn])
  clear h ho hv
  by_cases hi : q.has i
  · have he : q.look i = (q.get i, 0) := by unfold Nt.look; rw [if_pos hi]
    rw [he] at HLK
    rw [if_neg (not_not_intro hi)]
    obtain ⟨p9, hp9⟩ : ∃ z, q.get i = z := ⟨_, rfl⟩
    rw [hp9] at HLK ⊢
    obtain ⟨pf, hpf⟩ : ∃ z, p9.frm = z := ⟨_, rfl⟩
    obtain ⟨tp, htp⟩ : ∃ z, text p9.s = z := ⟨_, rfl⟩
    have HPA := Lib.hid (show p9.arr = #[.int .i64 pf, .string tp] from by simp only [Pk.arr, hpf, htp])
    have HTX := Lib.hid (show (Value.int .i64 p9.frm = .int .i64 pf) ∧ (Value.string (text p9.s) = .string tp) from by rw [← hpf, ← htp]; exact ⟨rfl, rfl⟩)
    simp only [HPA.out] at HLK
    by_cases hq : q.most ≤ (n : Int)
    · rw [if_pos hq]
      clear hi he hp9 hpf htp hn hm1 hml
      go_enter Try.func26, Try.ntmps26
      go_upto_region 2 with (go_at_call 28; (with_reducible refine HLK.out.mono ?_); rintro e1 w1 ⟨rfl, hb1⟩; have HB1 := Lib.hid hb1; clear hb1)
      have HB2 := Lib.hid (HB1.out.trans ((alloc_below w1 (.cells #[.int .i64 pf, .string tp] 43)).mono HB1.out.size))
      have hp1 : PkB (w1.alloc (.cells #[.int .i64 pf, .string tp] 43)) w1.heap.size p9 := by unfold PkB; rw [HPA.out]; exact heap_alloc_new w1 _
      obtain ⟨B1, hB1⟩ : ∃ z, w1.heap.size = z := ⟨_, rfl⟩
      have HB1E := Lib.hid hB1
      rw [hB1] at hp1 ⊢
      have HP1 := Lib.hid hp1
      clear hp1 hB1
      generalize w1.alloc (.cells #[.int .i64 pf, .string tp] 43) = w2 at *
      have y0 := (HH.out.below HB2.out).cs.1
      have y1 := (HH.out.below HB2.out).cs.2.1
      rw [HV.out] at y1
      go_upto_region 4 with (fail)
      go_quiet (fail)
      go_wp2
      go_ret
      have hb3 : Below w.heap.size w (w2.drewN nq) := HB2.out.trans ⟨rfl, rfl, rfl, Nat.le_refl _, fun _ _ => rfl⟩
      exact ⟨rfl, _, HK.out.below hb3, TrN.of hb3, fun k hk => .inl hk⟩
    · rw [if_neg hq]
      have HXA := Lib.hid HPA.out.symm
      clear hi he hp9 hpf htp hn hm1 hml
      go_enter Try.func26, Try.ntmps26
      go_upto_region 2 with (go_at_call 28; (with_reducible refine HLK.out.mono ?_); rintro e1 w1 ⟨rfl, hb1⟩; have HB1 := Lib.hid hb1; clear hb1)
      have HB2 := Lib.hid (HB1.out.trans ((alloc_below w1 (.cells #[.int .i64 pf, .string tp] 43)).mono HB1.out.size))
      have hp1 : PkB (w1.alloc (.cells #[.int .i64 pf, .string tp] 43)) w1.heap.size p9 := by unfold PkB; rw [HPA.out]; exact heap_alloc_new w1 _
      obtain ⟨B1, hB1⟩ : ∃ z, w1.heap.size = z := ⟨_, rfl⟩
      have HB1E := Lib.hid hB1
      rw [hB1] at hp1 ⊢
      have HP1 := Lib.hid hp1
      clear hp1 hB1
      generalize w1.alloc (.cells #[.int .i64 pf, .string tp] 43) = w2 at *
      have y0 := (HH.out.below HB2.out).cs.1
      have y1 := (HH.out.below HB2.out).cs.2.1
      rw [HV.out] at y1
      go_upto_region 4 with (fail)
      go_quiet (fail)
      go_upto_region 6 with (fail)
      have hs : SameN w2 (w2.drewN nq) := ⟨rfl, rfl, rfl, rfl⟩
      have HB8 := Lib.hid (HB2.out.trans (hs.below.mono HB2.out.size))
      have HN8' := Lib.hid (HH.out.below HB8.out)
      have HP8 := Lib.hid (HP1.out.kept hs.below)
      clear y0 y1 hs hq
      generalize w2.drewN nq = w8 at *
      have HC := Lib.hid (fun (W : World) (hW : Below w8.heap.size w8 W) => show W.cell? ⟨g, 1, none⟩ = some (.slice va n cap) ∧ W.frozen? ⟨g, 1, none⟩ = false from by
        have := (HN8'.out.below hW).cs.2.1
        rw [HV.out] at this
        exact ⟨this, (HN8'.out.below hW).fz 1⟩)
      have hn8 := HN8'.out
      rw [HV.out] at hn8
      have HN8 := Lib.hid hn8
      clear hn8
      refine wp_region_inv [none, none, none, none, none, none, none, none, none, none, none, none, none, none, none, none, none, none, none, none, none, none, none, none, none, none, some 0, some 1, some 2, some 3, some 4, some 5, some 6, some 7, some 8, some 9, some 10, some 11, none, none, none, none, none, none, none, none, none, none] (fun i => [undef, undef, undef, undef, undef, undef, undef, undef, undef, undef, undef, undef, undef].getD i undef) (fun L xs W => CpInv w8 g q.l p9 1 6 8 9 12 13 [some (.pointer (some ⟨g, 0, none⟩)), none, some (.pointer (some ⟨g, 0, none⟩)), some (.pointer (some ⟨g, 0, none⟩)), some (.pointer (some ⟨g, 1, none⟩)), some (.slice va n cap), none, some (.agg #[.int .i64 pf, .string tp]), none, none, some (.pointer (some ⟨g, 0, none⟩)), some (.pointer (some ⟨g, 1, none⟩)), none] L xs W ∧ AllN 12 10 L) (by kernel_rfl) (by kernel_rfl) rfl rfl (fun L hL => ⟨CpInv.start hL (by decide) (by decide) (SameN.drawn _ _).below, fun h => by rw [hL 12 (by decide)] at h; cases h⟩) ?_ ?_
      · simp only [invOps, and_true]
        refine ⟨?_, ?_, ?_, ?_, ?_, ?_, ?_, ?_, ?_, ?_, ?_, ?_, ?_⟩
        · intro L xs W ⟨hI, hA⟩ hL hn
          simp only [flowAct, List.zipWith_cons_cons, List.zipWith_nil_left]
          go_wp2_with (fail)
          exact ⟨rfl, _, rfl, hI.pure 0 (by decide) (fun x hx => by first | (injection hx with hx) | cases hx), hA.step 0 (by decide)⟩
        · intro L xs W ⟨hI, hA⟩ hL hn
          simp only [flowAct, List.zipWith_cons_cons, List.zipWith_nil_left]
          go_wp2_with (fail)
          exact ⟨rfl, _, rfl, hI.stepE (by decide) hL (fun x hx => by first | (injection hx with hx) | cases hx) rfl, hA.step 1 (by decide)⟩
        · intro L xs W ⟨hI, hA⟩ hL hn
          simp only [flowAct, List.zipWith_cons_cons, List.zipWith_nil_left]
          go_wp2_with (fail)
          exact ⟨rfl, _, rfl, hI.pure 2 (by decide) (fun x hx => by first | (injection hx with hx) | cases hx), hA.step 2 (by decide)⟩
        · intro L xs W ⟨hI, hA⟩ hL hn
          simp [invNeeds, Region.binds] at hn
          have e2 : xs 2 = .pointer (some ⟨g, 0, none⟩) := hI.val 2 (by decide) (by simp only [hn]) _ rfl
          simp only [flowAct, List.zipWith_cons_cons, List.zipWith_nil_left]
          simp only [e2]
          go_wp2_with (fail)
          exact ⟨rfl, _, rfl, hI.pure 3 (by decide) (fun x hx => by first | (injection hx with hx) | cases hx), hA.step 3 (by decide)⟩
        · intro L xs W ⟨hI, hA⟩ hL hn
          simp [invNeeds, Region.binds] at hn
          have e3 : xs 3 = .pointer (some ⟨g, 0, none⟩) := hI.val 3 (by decide) (by simp only [hn]) _ rfl
          simp only [flowAct, List.zipWith_cons_cons, List.zipWith_nil_left]
          simp only [e3]
          go_wp2_with (fail)
          exact ⟨rfl, _, rfl, hI.pure 4 (by decide) (fun x hx => by first | (injection hx with hx) | cases hx), hA.step 4 (by decide)⟩
        · intro L xs W ⟨hI, hA⟩ hL hn
          simp [invNeeds, Region.binds] at hn
          have e4 : xs 4 = .pointer (some ⟨g, 1, none⟩) := hI.val 4 (by decide) (by simp only [hn]) _ rfl
          have z1 := (HC.out W (hI.below (hA.no (i := 5) (by decide) hL))).1
          simp only [flowAct, List.zipWith_cons_cons, List.zipWith_nil_left]
          simp only [e4]
          go_wp2_with (fail)
          exact ⟨rfl, _, rfl, hI.pure 5 (by decide) (fun x hx => by first | (injection hx with hx) | cases hx), hA.step 5 (by decide)⟩
        · intro L xs W ⟨hI, hA⟩ hL hn
          simp [invNeeds, Region.binds] at hn
          have e5 : xs 5 = .slice va n cap := hI.val 5 (by decide) (by simp only [hn]) _ rfl
          have hLe : L 1 = true := by simp only [hn]
          obtain ⟨g1, ee, oe, ce⟩ := hI.emp hLe hL
          have HB := Lib.hid (hI.below (hI.nos (hI.noc (.inl hL))))
          have HOE := Lib.hid (And.intro oe ce)
          clear oe ce
          simp only [flowAct, List.zipWith_cons_cons, List.zipWith_nil_left]
          simp only [e5, ee]
          go_wp2_with (refine wpList_append_cp (w8 := w8) (x := p9) rfl _ _ rfl (g := g) (v := .slice va n cap) (q := q) rfl HOE.out.1 HOE.out.2 rfl (HN8.out.below HB.out) H64.out HB.out ?_; intro v9 w9 ho9 hb9 hk9)
          exact ⟨rfl, _, rfl, hI.stepA (by decide) hL hLe (fun x hx => by first | (injection hx with hx) | cases hx) hb9 ho9 hk9, hA.step 6 (by decide)⟩
        · intro L xs W ⟨hI, hA⟩ hL hn
          have pb := HP8.out.kept (hI.below (hA.no (i := 7) (by decide) hL))
          have z5 := pb.c0
          have z6 := pb.c1
          rw [HTX.out.1] at z5
          rw [HTX.out.2] at z6
          clear pb
          simp only [flowAct, List.zipWith_cons_cons, List.zipWith_nil_left]
          go_wp2_with (fail)
          exact ⟨rfl, _, rfl, hI.pure 7 (by decide) (fun x hx => by first | (injection hx with hx) | cases hx), hA.step 7 (by decide)⟩
        · intro L xs W ⟨hI, hA⟩ hL hn
          simp [invNeeds, Region.binds] at hn
          have e7 : xs 7 = .agg #[.int .i64 pf, .string tp] := hI.val 7 (by decide) (by simp only [hn]) _ rfl
          simp only [flowAct, List.zipWith_cons_cons, List.zipWith_nil_left]
          simp only [e7]
          go_wp2_with (fail)
          exact ⟨rfl, _, rfl, hI.stepB (by decide) hL (fun x hx => by first | (injection hx with hx) | cases hx) rfl HXA.out, hA.step 8 (by decide)⟩
        · intro L xs W ⟨hI, hA⟩ hL hn
          simp [invNeeds, Region.binds] at hn
          have hLa : L 6 = true := by simp only [hn]
          have hLb : L 8 = true := by simp only [hn]
          obtain ⟨b9, eb, pb⟩ := hI.box hLb hL
          have HB := Lib.hid (hI.below (hI.nos hL))
          have HOA := Lib.hid (hI.one hLa hL)
          have HPB := Lib.hid pb
          clear pb
          simp only [flowAct, List.zipWith_cons_cons, List.zipWith_nil_left]
          simp only [eb]
          go_wp2_with (refine wpList_append_pk rfl _ _ rfl rfl HOA.out p9 rfl HPB.out (by have := H64.out; omega) HB.out.size ?_; intro v9 w9 ho9 hg9 ha9)
          exact ⟨rfl, _, rfl, hI.stepC (by decide) hL hLa hLb (fun x hx => by first | (injection hx with hx) | cases hx) (HB.out.grown hg9 HB.out.size (fun k hk => (HOA.out.lt k hk).1)) ho9, hA.step 9 (by decide)⟩
        · intro L xs W ⟨hI, hA⟩ hL hn
          simp [invNeeds, Region.binds] at hn
          have e0 : xs 0 = .pointer (some ⟨g, 0, none⟩) := hI.val 0 (by decide) (by simp only [hn]) _ rfl
          simp only [flowAct, List.zipWith_cons_cons, List.zipWith_nil_left]
          simp only [e0]
          go_wp2_with (fail)
          exact ⟨rfl, _, rfl, hI.pure 10 (by decide) (fun x hx => by first | (injection hx with hx) | cases hx), hA.step 10 (by decide)⟩
        · intro L xs W ⟨hI, hA⟩ hL hn
          simp [invNeeds, Region.binds] at hn
          have e10 : xs 10 = .pointer (some ⟨g, 0, none⟩) := hI.val 10 (by decide) (by simp only [hn]) _ rfl
          simp only [flowAct, List.zipWith_cons_cons, List.zipWith_nil_left]
          simp only [e10]
          go_wp2_with (fail)
          exact ⟨rfl, _, rfl, hI.pure 11 (by decide) (fun x hx => by first | (injection hx with hx) | cases hx), hA.step 11 (by decide)⟩
        · intro L xs W ⟨hI, hA⟩ hL hn
          simp [invNeeds, Region.binds] at hn
          have e11 : xs 11 = .pointer (some ⟨g, 1, none⟩) := hI.val 11 (by decide) (by simp only [hn]) _ rfl
          have hLc : L 9 = true := by simp only [hn]
          have h2c := hI.two hLc hL
          have hb8 := hI.below hL
          obtain ⟨wa, wc, ec, -⟩ := OwnL.ls (z := Pk.zero) pk_size h2c
          obtain ⟨wm, hwm⟩ : ∃ z, (q.l ++ [p9]).length = z := ⟨_, rfl⟩
          rw [hwm] at ec
          obtain ⟨z1, z2⟩ := HC.out W hb8
          clear h2c hb8 hwm
          simp only [flowAct, List.zipWith_cons_cons, List.zipWith_nil_left]
          simp only [e11, ec]
          go_wp2_with (fail)
          exact ⟨rfl, undef, rfl, hI.stepS (by decide) hL hLc (fun x hx => by first | (injection hx with hx) | cases hx) ec, AllN.last (by decide) (fun i hi => by rcases (by omega : i = 0 ∨ i = 1 ∨ i = 2 ∨ i = 3 ∨ i = 4 ∨ i = 5 ∨ i = 6 ∨ i = 7 ∨ i = 8 ∨ i = 9) with rfl | rfl | rfl | rfl | rfl | rfl | rfl | rfl | rfl | rfl <;> simp only [hn])⟩
      · intro L xs W ⟨hI, hA⟩ hL
        obtain ⟨W3, v9, hb3, ho3, rfl⟩ := hI.fin (hL 12 (by decide))
        obtain ⟨hnw, htr, hft⟩ := HN8'.out.copied hb3 ho3 HB8.out
        have HNW := Lib.hid hnw
        have HTR := Lib.hid htr
        have HFT := Lib.hid hft
        clear hnw htr hft hb3 ho3 hI hL hA
        simp only [flowAct, List.zipWith_cons_cons, List.zipWith_nil_left]
        generalize W3.setCell ⟨g, 1, none⟩ v9 = W5 at *
        go_upto_region 7 with (fail)
        have hwr := wrap1 q.c3 HCB.out.1 HCB.out.2
        have HCC := Lib.hid (fun (W : World) (hW : SameN W5 W) => show W.cell? ⟨g, 5, none⟩ = some (.int .i64 q.c3) ∧ W.frozen? ⟨g, 5, none⟩ = false from by
          have hn := hW.nt HNW.out
          have := hn.cs
          exact ⟨by simp_all, hn.fz 5⟩)
        refine wp_region_inv [none, none, none, none, none, none, none, none, none, none, none, none, none, none, none, none, none, none, none, none, none, none, none, none, none, none, none, none, none, none, none, none, none, none, none, none, none, none, some 0, some 1, some 2, some 3, some 4, some 5, some 6, some 7, some 8, some 9] (fun i => [undef, undef, undef, undef, undef, undef, undef, undef, undef, undef, undef].getD i undef) (fun L xs W => InvQ [10] 11 (RvN [some (.pointer (some ⟨g, 0, none⟩)), some (.pointer (some ⟨g, 0, none⟩)), some (.pointer (some ⟨g, 0, none⟩)), some (.pointer (some ⟨g, 2, none⟩)), some (.pointer (some ⟨g, 5, none⟩)), some (.int .i64 q.c3), some (.int .i64 (q.c3 + 1)), some (.pointer (some ⟨g, 0, none⟩)), some (.pointer (some ⟨g, 2, none⟩)), some (.pointer (some ⟨g, 5, none⟩)), none]) (TurnR W5 g 5 (.int .i64 (q.c3 + 1))) L xs W ∧ ((L 10 = true → L 5 = true))) (by kernel_rfl) (by kernel_rfl) rfl rfl (fun L hL => ⟨InvQ.start hL (by decide) (by decide) (SameN.drawn _ _), (fun h => by rw [hL 10 (by decide)] at h; cases h)⟩) ?_ ?_
        · simp only [invOps, and_true]
          refine ⟨?_, ?_, ?_, ?_, ?_, ?_, ?_, ?_, ?_, ?_, ?_⟩
          · intro L xs W ⟨hI, hE⟩ hL hn
            have hE0 := hE
            simp only [flowAct, List.zipWith_cons_cons, List.zipWith_nil_left]
            go_wp2_with (fail)
            exact ⟨rfl, _, rfl, hI.pure 0 (by decide) (fun _ h => h) (fun x hx => by first | (injection hx with hx) | cases hx), hE0⟩
          · intro L xs W ⟨hI, hE⟩ hL hn
            have hE0 := hE
            simp only [flowAct, List.zipWith_cons_cons, List.zipWith_nil_left]
            go_wp2_with (fail)
            exact ⟨rfl, _, rfl, hI.pure 1 (by decide) (fun _ h => h) (fun x hx => by first | (injection hx with hx) | cases hx), hE0⟩
          · intro L xs W ⟨hI, hE⟩ hL hn
            simp [invNeeds, Region.binds] at hn
            have e1 : xs 1 = .pointer (some ⟨g, 0, none⟩) := hI.val 1 (by decide) (by simp only [hn]) _ rfl
            have hE0 := hE
            simp only [flowAct, List.zipWith_cons_cons, List.zipWith_nil_left]
            simp only [e1]
            go_wp2_with (fail)
            exact ⟨rfl, _, rfl, hI.pure 2 (by decide) (fun _ h => h) (fun x hx => by first | (injection hx with hx) | cases hx), hE0⟩
          · intro L xs W ⟨hI, hE⟩ hL hn
            simp [invNeeds, Region.binds] at hn
            have e2 : xs 2 = .pointer (some ⟨g, 0, none⟩) := hI.val 2 (by decide) (by simp only [hn]) _ rfl
            have hE0 := hE
            simp only [flowAct, List.zipWith_cons_cons, List.zipWith_nil_left]
            simp only [e2]
            go_wp2_with (fail)
            exact ⟨rfl, _, rfl, hI.pure 3 (by decide) (fun _ h => h) (fun x hx => by first | (injection hx with hx) | cases hx), hE0⟩
          · intro L xs W ⟨hI, hE⟩ hL hn
            simp [invNeeds, Region.binds] at hn
            have e3 : xs 3 = .pointer (some ⟨g, 2, none⟩) := hI.val 3 (by decide) (by simp only [hn]) _ rfl
            have hE0 := hE
            simp only [flowAct, List.zipWith_cons_cons, List.zipWith_nil_left]
            simp only [e3]
            go_wp2_with (fail)
            exact ⟨rfl, _, rfl, hI.pure 4 (by decide) (fun _ h => h) (fun x hx => by first | (injection hx with hx) | cases hx), hE0⟩
          · intro L xs W ⟨hI, hE⟩ hL hn
            simp [invNeeds, Region.binds] at hn
            have e4 : xs 4 = .pointer (some ⟨g, 5, none⟩) := hI.val 4 (by decide) (by simp only [hn]) _ rfl
            have hE0 := hE
            have Lb0 : L 10 = false := by
              cases h : L 10 with
              | false => rfl
              | true => have := hE0 h; rw [hL] at this; cases this
            obtain ⟨k9, hk9, hr9⟩ := hI.upto (j := 0) rfl Lb0
            obtain rfl : k9 = 0 := by omega
            have z1 := (HCC.out W hr9).1
            clear hr9
            simp only [flowAct, List.zipWith_cons_cons, List.zipWith_nil_left]
            simp only [e4]
            go_wp2_with (fail)
            exact ⟨rfl, _, rfl, hI.pure 5 (by decide) (fun _ h => h) (fun x hx => by first | (injection hx with hx) | cases hx), (fun _ => by simp)⟩
          · intro L xs W ⟨hI, hE⟩ hL hn
            simp [invNeeds, Region.binds] at hn
            have e5 : xs 5 = .int .i64 q.c3 := hI.val 5 (by decide) (by simp only [hn]) _ rfl
            have hE0 := hE
            simp only [flowAct, List.zipWith_cons_cons, List.zipWith_nil_left]
            simp only [e5]
            go_wp2_with (fail)
            exact ⟨rfl, _, rfl, hI.pure 6 (by decide) (fun _ h => h) (fun x hx => by first | (injection hx with hx) | cases hx), hE0⟩
          · intro L xs W ⟨hI, hE⟩ hL hn
            simp [invNeeds, Region.binds] at hn
            have e0 : xs 0 = .pointer (some ⟨g, 0, none⟩) := hI.val 0 (by decide) (by simp only [hn]) _ rfl
            have hE0 := hE
            simp only [flowAct, List.zipWith_cons_cons, List.zipWith_nil_left]
            simp only [e0]
            go_wp2_with (fail)
            exact ⟨rfl, _, rfl, hI.pure 7 (by decide) (fun _ h => h) (fun x hx => by first | (injection hx with hx) | cases hx), hE0⟩
          · intro L xs W ⟨hI, hE⟩ hL hn
            simp [invNeeds, Region.binds] at hn
            have e7 : xs 7 = .pointer (some ⟨g, 0, none⟩) := hI.val 7 (by decide) (by simp only [hn]) _ rfl
            have hE0 := hE
            simp only [flowAct, List.zipWith_cons_cons, List.zipWith_nil_left]
            simp only [e7]
            go_wp2_with (fail)
            exact ⟨rfl, _, rfl, hI.pure 8 (by decide) (fun _ h => h) (fun x hx => by first | (injection hx with hx) | cases hx), hE0⟩
          · intro L xs W ⟨hI, hE⟩ hL hn
            simp [invNeeds, Region.binds] at hn
            have e8 : xs 8 = .pointer (some ⟨g, 2, none⟩) := hI.val 8 (by decide) (by simp only [hn]) _ rfl
            have hE0 := hE
            simp only [flowAct, List.zipWith_cons_cons, List.zipWith_nil_left]
            simp only [e8]
            go_wp2_with (fail)
            exact ⟨rfl, _, rfl, hI.pure 9 (by decide) (fun _ h => h) (fun x hx => by first | (injection hx with hx) | cases hx), hE0⟩
          · intro L xs W ⟨hI, hE⟩ hL hn
            simp [invNeeds, Region.binds] at hn
            have e9 : xs 9 = .pointer (some ⟨g, 5, none⟩) := hI.val 9 (by decide) (by simp only [hn]) _ rfl
            have e6 : xs 6 = .int .i64 (q.c3 + 1) := hI.val 6 (by decide) (by simp only [hn]) _ rfl
            have hr := hI.at 0 rfl hL (fun p hp => absurd hp.1 (by omega))
            have hE0 := hE
            have Li0 : L 5 = true := by simp only [hn]
            have HR := Lib.hid hr
            obtain ⟨z1, z2⟩ := HCC.out W hr
            clear hr
            simp only [flowAct, List.zipWith_cons_cons, List.zipWith_nil_left]
            simp only [e9, e6]
            go_wp2_with (fail)
            exact ⟨rfl, undef, rfl, hI.step 0 rfl hL (fun p hp => absurd hp.1 (by omega)) (by decide) (⟨W, HR.out, rfl⟩) (fun x hx => by first | (injection hx with hx) | cases hx), (fun _ => by simpa using Li0)⟩
        · intro L xs W ⟨hI, hE⟩ hL
          have hdone := (hI.done hL (by decide) (by decide)).1
          obtain ⟨W6, hs6, rfl⟩ : ∃ W6, SameN W5 W6 ∧ W = W6.setCell ⟨g, 5, none⟩ (.int .i64 (q.c3 + 1)) := hdone
          have HS6 := Lib.hid hs6
          have HNW9 := Lib.hid (hs6.nt HNW.out)
          clear hs6 hI hE hL
          simp only [flowAct, List.zipWith_cons_cons, List.zipWith_nil_left]
          go_wp2
          go_ret
          refine ⟨rfl, _, ⟨v9, HNW9.out.bump3 (q.c3 + 1), rfl⟩, ?_, HFT.out⟩
          exact (HTR.out.then (TrN.of HS6.out.below)).set (.inl (.inl rfl))
  · have he : q.look i = (Pk.zero, 211) := by unfold Nt.look; rw [if_neg hi]
    rw [he] at HLK
    rw [if_pos hi]
    have hza : Pk.arr Pk.zero = #[.int .i64 0, .string ⟨#[]⟩] := rfl
    simp only [hza] at HLK
    clear hi he hza hn hm1 hml
    go_enter Try.func26, Try.ntmps26
    go_upto_region 2 with (go_at_call 28; (with_reducible refine HLK.out.mono ?_); rintro e1 w1 ⟨rfl, hb1⟩; have HB1 := Lib.hid hb1; clear hb1)
    have HB2 := Lib.hid (HB1.out.trans ((alloc_below w1 (.cells #[.int .i64 0, .string ⟨#[]⟩] 43)).mono HB1.out.size))
    generalize w1.alloc (.cells #[.int .i64 0, .string ⟨#[]⟩] 43) = w2 at *
    go_wp2
    go_ret
    exact ⟨rfl, _, HK.out.below HB2.out, TrN.of HB2.out, fun k hk => .inl hk⟩
set_option maxRecDepth 100000 in
set_option maxHeartbeats 6400000 in
theorem rndrop_c {w : World} {g nn : Nat} {q : Nt} {F : Nat → Prop} (hk : Nk w 60 g q F) (ho : q.Ok nn) (hnn : nn ≤ 100000) (i9 : Int) : Calls Try.prog 25 #[.pointer (some ⟨g, 0, none⟩), .int .i64 i9] w (NPost 60 g F (.int .i64 (q.look i9).2) (q.drop i9) w) := by
  have HLK := Lib.hid (rnlook_c hk i9)
  have HK := Lib.hid hk
  unfold LkPost at HLK
  have HCB := Lib.hid (show 0 ≤ q.c2 ∧ q.c2 ≤ 100000 from by have := ho.b2; omega)
  have hm1 := ho.m1
  have hml := ho.len
  obtain ⟨v, h, rfl⟩ := hk
  have HH := Lib.hid h
  have H64 := Lib.hid (show q.l.length ≤ 64 from by omega)
  clear h ho
  by_cases hi : q.has i9
  · have he : q.look i9 = (q.get i9, 0) := by unfold Nt.look; rw [if_pos hi]
    have he2 : q.drop i9 = { q with l := q.rest i9, c2 := q.c2 + 1 } := by unfold Nt.drop; rw [if_pos hi]
    have hr9 : q.rest i9 = q.l.take i9.toNat ++ q.l.drop (i9.toNat + 1) := rfl
    rw [he2, hr9]
    rw [he] at HLK ⊢
    obtain ⟨p9, hp9⟩ : ∃ z, q.get i9 = z := ⟨_, rfl⟩
    rw [hp9] at HLK ⊢
    obtain ⟨i, rfl⟩ := Int.eq_ofNat_of_zero_le hi.1
    rw [Int.toNat_natCast]
    have HI := Lib.hid (show i < q.l.length from by have := hi.2; omega)
    obtain ⟨pf, hpf⟩ : ∃ z, p9.frm = z := ⟨_, rfl⟩
    obtain ⟨tp, htp⟩ : ∃ z, text p9.s = z := ⟨_, rfl⟩
    have HPA := Lib.hid (show p9.arr = #[.int .i64 pf, .string tp] from by simp only [Pk.arr, hpf, htp])
    have HTX := Lib.hid (show (Value.int .i64 p9.frm = .int .i64 pf) ∧ (Value.string (text p9.s) = .string tp) from by rw [← hpf, ← htp]; exact ⟨rfl, rfl⟩)
    simp only [HPA.out] at HLK
    clear hi he he2 hr9 hp9 hpf htp hm1 hml
    go_enter Try.func25, Try.ntmps25
    go_upto_region 2 with (go_at_call 28; (with_reducible refine HLK.out.mono ?_); rintro e1 w1 ⟨rfl, hb1⟩; have HB1 := Lib.hid hb1; clear hb1)
    have HB2 := Lib.hid (HB1.out.trans ((alloc_below w1 (.cells #[.int .i64 pf, .string tp] 43)).mono HB1.out.size))
    have hp1 : PkB (w1.alloc (.cells #[.int .i64 pf, .string tp] 43)) w1.heap.size p9 := by unfold PkB; rw [HPA.out]; exact heap_alloc_new w1 _
    obtain ⟨B1, hB1⟩ : ∃ z, w1.heap.size = z := ⟨_, rfl⟩
    have HB1E := Lib.hid hB1
    rw [hB1] at hp1 ⊢
    have HP1 := Lib.hid hp1
    clear hp1 hB1
    generalize w1.alloc (.cells #[.int .i64 pf, .string tp] 43) = w2 at *
    have HGB := Lib.hid (show (∀ k, nfoot g v k → k < w.heap.size) from fun k hk => HH.out.lt hk)
    go_upto_region 4 with (go_at_call 33; (with_reducible refine (rnout_c (HH.out.below HB2.out) H64.out i HI.out).mono ?_); rintro e5 W5 ⟨rfl, v9, hn5, ht5, hf5⟩; have HNW := Lib.hid hn5; have HT5 := Lib.hid ht5; have HF5 := Lib.hid hf5; clear hn5 ht5 hf5)
    have HTR := Lib.hid ((TrN.of (F := nfoot g v) HB2.out).then HT5.out)
    have HFT := Lib.hid (show ∀ k, nfoot g v9 k → nfoot g v k ∨ w.heap.size ≤ k from fun k hk => (HF5.out k hk).imp id (fun h => Nat.le_trans HB2.out.size h))
    have hwr := wrap1 q.c2 HCB.out.1 HCB.out.2
    have HCC := Lib.hid (fun (W : World) (hW : SameN W5 W) => show W.cell? ⟨g, 4, none⟩ = some (.int .i64 q.c2) ∧ W.frozen? ⟨g, 4, none⟩ = false from by
      have hn := hW.nt HNW.out
      have := hn.cs
      exact ⟨by simp_all, hn.fz 4⟩)
    refine wp_region_inv [none, none, none, none, none, none, none, none, none, none, none, none, none, none, none, none, none, none, some 0, some 1, some 2, some 3, some 4, some 5, some 6, some 7, some 8, some 9, none] (fun i => [undef, undef, undef, undef, undef, undef, undef, undef, undef, undef, undef].getD i undef) (fun L xs W => InvQ [10] 11 (RvN [some (.pointer (some ⟨g, 0, none⟩)), some (.pointer (some ⟨g, 0, none⟩)), some (.pointer (some ⟨g, 0, none⟩)), some (.pointer (some ⟨g, 2, none⟩)), some (.pointer (some ⟨g, 4, none⟩)), some (.int .i64 q.c2), some (.int .i64 (q.c2 + 1)), some (.pointer (some ⟨g, 0, none⟩)), some (.pointer (some ⟨g, 2, none⟩)), some (.pointer (some ⟨g, 4, none⟩)), none]) (TurnR W5 g 4 (.int .i64 (q.c2 + 1))) L xs W ∧ ((L 10 = true → L 5 = true))) (by kernel_rfl) (by kernel_rfl) rfl rfl (fun L hL => ⟨InvQ.start hL (by decide) (by decide) (SameN.drawn _ _), (fun h => by rw [hL 10 (by decide)] at h; cases h)⟩) ?_ ?_
    · simp only [invOps, and_true]
      refine ⟨?_, ?_, ?_, ?_, ?_, ?_, ?_, ?_, ?_, ?_, ?_⟩
      · intro L xs W ⟨hI, hE⟩ hL hn
        have hE0 := hE
        simp only [flowAct, List.zipWith_cons_cons, List.zipWith_nil_left]
        go_wp2_with (fail)
        exact ⟨rfl, _, rfl, hI.pure 0 (by decide) (fun _ h => h) (fun x hx => by first | (injection hx with hx) | cases hx), hE0⟩
      · intro L xs W ⟨hI, hE⟩ hL hn
        have hE0 := hE
        simp only [flowAct, List.zipWith_cons_cons, List.zipWith_nil_left]
        go_wp2_with (fail)
        exact ⟨rfl, _, rfl, hI.pure 1 (by decide) (fun _ h => h) (fun x hx => by first | (injection hx with hx) | cases hx), hE0⟩
      · intro L xs W ⟨hI, hE⟩ hL hn
        simp [invNeeds, Region.binds] at hn
        have e1 : xs 1 = .pointer (some ⟨g, 0, none⟩) := hI.val 1 (by decide) (by simp only [hn]) _ rfl
        have hE0 := hE
        simp only [flowAct, List.zipWith_cons_cons, List.zipWith_nil_left]
        simp only [e1]
        go_wp2_with (fail)
        exact ⟨rfl, _, rfl, hI.pure 2 (by decide) (fun _ h => h) (fun x hx => by first | (injection hx with hx) | cases hx), hE0⟩
      · intro L xs W ⟨hI, hE⟩ hL hn
        simp [invNeeds, Region.binds] at hn
        have e2 : xs 2 = .pointer (some ⟨g, 0, none⟩) := hI.val 2 (by decide) (by simp only [hn]) _ rfl
        have hE0 := hE
        simp only [flowAct, List.zipWith_cons_cons, List.zipWith_nil_left]
        simp only [e2]
        go_wp2_with (fail)
        exact ⟨rfl, _, rfl, hI.pure 3 (by decide) (fun _ h => h) (fun x hx => by first | (injection hx with hx) | cases hx), hE0⟩
      · intro L xs W ⟨hI, hE⟩ hL hn
        simp [invNeeds, Region.binds] at hn
        have e3 : xs 3 = .pointer (some ⟨g, 2, none⟩) := hI.val 3 (by decide) (by simp only [hn]) _ rfl
        have hE0 := hE
        simp only [flowAct, List.zipWith_cons_cons, List.zipWith_nil_left]
        simp only [e3]
        go_wp2_with (fail)
        exact ⟨rfl, _, rfl, hI.pure 4 (by decide) (fun _ h => h) (fun x hx => by first | (injection hx with hx) | cases hx), hE0⟩
      · intro L xs W ⟨hI, hE⟩ hL hn
        simp [invNeeds, Region.binds] at hn
        have e4 : xs 4 = .pointer (some ⟨g, 4, none⟩) := hI.val 4 (by decide) (by simp only [hn]) _ rfl
        have hE0 := hE
        have Lb0 : L 10 = false := by
          cases h : L 10 with
          | false => rfl
          | true => have := hE0 h; rw [hL] at this; cases this
        obtain ⟨k9, hk9, hr9⟩ := hI.upto (j := 0) rfl Lb0
        obtain rfl : k9 = 0 := by omega
        have z1 := (HCC.out W hr9).1
        clear hr9
        simp only [flowAct, List.zipWith_cons_cons, List.zipWith_nil_left]
        simp only [e4]
        go_wp2_with (fail)
        exact ⟨rfl, _, rfl, hI.pure 5 (by decide) (fun _ h => h) (fun x hx => by first | (injection hx with hx) | cases hx), (fun _ => by simp)⟩
      · intro L xs W ⟨hI, hE⟩ hL hn
        simp [invNeeds, Region.binds] at hn
        have e5 : xs 5 = .int .i64 q.c2 := hI.val 5 (by decide) (by simp only [hn]) _ rfl
        have hE0 := hE
        simp only [flowAct, List.zipWith_cons_cons, List.zipWith_nil_left]
        simp only [e5]
        go_wp2_with (fail)
        exact ⟨rfl, _, rfl, hI.pure 6 (by decide) (fun _ h => h) (fun x hx => by first | (injection hx with hx) | cases hx), hE0⟩
      · intro L xs W ⟨hI, hE⟩ hL hn
        simp [invNeeds, Region.binds] at hn
        have e0 : xs 0 = .pointer (some ⟨g, 0, none⟩) := hI.val 0 (by decide) (by simp only [hn]) _ rfl
        have hE0 := hE
        simp only [flowAct, List.zipWith_cons_cons, List.zipWith_nil_left]
        simp only [e0]
        go_wp2_with (fail)
        exact ⟨rfl, _, rfl, hI.pure 7 (by decide) (fun _ h => h) (fun x hx => by first | (injection hx with hx) | cases hx), hE0⟩
      · intro L xs W ⟨hI, hE⟩ hL hn
        simp [invNeeds, Region.binds] at hn
        have e7 : xs 7 = .pointer (some ⟨g, 0, none⟩) := hI.val 7 (by decide) (by simp only [hn]) _ rfl
        have hE0 := hE
        simp only [flowAct, List.zipWith_cons_cons, List.zipWith_nil_left]
        simp only [e7]
        go_wp2_with (fail)
        exact ⟨rfl, _, rfl, hI.pure 8 (by decide) (fun _ h => h) (fun x hx => by first | (injection hx with hx) | cases hx), hE0⟩
      · intro L xs W ⟨hI, hE⟩ hL hn
        simp [invNeeds, Region.binds] at hn
        have e8 : xs 8 = .pointer (some ⟨g, 2, none⟩) := hI.val 8 (by decide) (by simp only [hn]) _ rfl
        have hE0 := hE
        simp only [flowAct, List.zipWith_cons_cons, List.zipWith_nil_left]
        simp only [e8]
        go_wp2_with (fail)
        exact ⟨rfl, _, rfl, hI.pure 9 (by decide) (fun _ h => h) (fun x hx => by first | (injection hx with hx) | cases hx), hE0⟩
      · intro L xs W ⟨hI, hE⟩ hL hn
        simp [invNeeds, Region.binds] at hn
        have e9 : xs 9 = .pointer (some ⟨g, 4, none⟩) := hI.val 9 (by decide) (by simp only [hn]) _ rfl
        have e6 : xs 6 = .int .i64 (q.c2 + 1) := hI.val 6 (by decide) (by simp only [hn]) _ rfl
        have hr := hI.at 0 rfl hL (fun p hp => absurd hp.1 (by omega))
        have hE0 := hE
        have Li0 : L 5 = true := by simp only [hn]
        have HR := Lib.hid hr
        obtain ⟨z1, z2⟩ := HCC.out W hr
        clear hr
        simp only [flowAct, List.zipWith_cons_cons, List.zipWith_nil_left]
        simp only [e9, e6]
        go_wp2_with (fail)
        exact ⟨rfl, undef, rfl, hI.step 0 rfl hL (fun p hp => absurd hp.1 (by omega)) (by decide) (⟨W, HR.out, rfl⟩) (fun x hx => by first | (injection hx with hx) | cases hx), (fun _ => by simpa using Li0)⟩
    · intro L xs W ⟨hI, hE⟩ hL
      have hdone := (hI.done hL (by decide) (by decide)).1
      obtain ⟨W6, hs6, rfl⟩ : ∃ W6, SameN W5 W6 ∧ W = W6.setCell ⟨g, 4, none⟩ (.int .i64 (q.c2 + 1)) := hdone
      have HS6 := Lib.hid hs6
      have HNW9 := Lib.hid (hs6.nt HNW.out)
      clear hs6 hI hE hL
      simp only [flowAct, List.zipWith_cons_cons, List.zipWith_nil_left]
      go_wp2
      go_ret
      refine ⟨rfl, _, ⟨v9, HNW9.out.bump2 (q.c2 + 1), rfl⟩, ?_, HFT.out⟩
      exact (HTR.out.then (TrN.of HS6.out.below)).set (.inl (.inl rfl))
  · have he : q.look i9 = (Pk.zero, 211) := by unfold Nt.look; rw [if_neg hi]
    have he2 : q.drop i9 = q := by unfold Nt.drop; rw [if_neg hi]
    rw [he2]
    rw [he] at HLK ⊢
    have hza : Pk.arr Pk.zero = #[.int .i64 0, .string ⟨#[]⟩] := rfl
    simp only [hza] at HLK ⊢
    clear hi he he2 hza hm1 hml
    go_enter Try.func25, Try.ntmps25
    go_upto_region 2 with (go_at_call 28; (with_reducible refine HLK.out.mono ?_); rintro e1 w1 ⟨rfl, hb1⟩; have HB1 := Lib.hid hb1; clear hb1)
    have HB2 := Lib.hid (HB1.out.trans ((alloc_below w1 (.cells #[.int .i64 0, .string ⟨#[]⟩] 43)).mono HB1.out.size))
    generalize w1.alloc (.cells #[.int .i64 0, .string ⟨#[]⟩] 43) = w2 at *
    go_wp2
    go_ret
    exact ⟨rfl, _, HK.out.below HB2.out, TrN.of HB2.out, fun k hk => .inl hk⟩
set_option maxRecDepth 100000 in
set_option maxHeartbeats 6400000 in
theorem rntake_c {w : World} {g nn : Nat} {q : Nt} {F : Nat → Prop} (hk : Nk w 60 g q F) (ho : q.Ok nn) (hnn : nn ≤ 100000) (i9 : Int) : Calls Try.prog 24 #[.pointer (some ⟨g, 0, none⟩), .int .i64 i9] w (NPost 60 g F (.tuple #[.agg (q.look i9).1.arr, .int .i64 (q.look i9).2]) (q.took i9) w) := by
  have HB := Lib.hid (alloc_below w (.cells #[.int .i64 0, .string ⟨#[]⟩] 43))
  have HP := Lib.hid (show PkB (w.alloc (.cells #[.int .i64 0, .string ⟨#[]⟩] 43)) w.heap.size Pk.zero from heap_alloc_new w _)
  have HLK := Lib.hid (rnlook_c (hk.below HB.out) i9)
  obtain ⟨B, hB⟩ : ∃ z, w.heap.size = z := ⟨_, rfl⟩
  have HSB := Lib.hid hB
  rw [hB] at HP
  have HK := Lib.hid hk
  unfold LkPost at HLK
  have HCB := Lib.hid (show 0 ≤ q.c1 ∧ q.c1 ≤ 100000 from by have := ho.b1; omega)
  have hm1 := ho.m1
  have hml := ho.len
  obtain ⟨v, h, rfl⟩ := hk
  have HH := Lib.hid h
  have H64 := Lib.hid (show q.l.length ≤ 64 from by omega)
  clear h ho
  by_cases hi : q.has i9
  · have he : q.look i9 = (q.get i9, 0) := by unfold Nt.look; rw [if_pos hi]
    have he2 : q.took i9 = { q with l := q.rest i9, c1 := q.c1 + 1 } := by unfold Nt.took; rw [if_pos hi]
    have hr9 : q.rest i9 = q.l.take i9.toNat ++ q.l.drop (i9.toNat + 1) := rfl
    rw [he2, hr9]
    rw [he] at HLK ⊢
    obtain ⟨p9, hp9⟩ : ∃ z, q.get i9 = z := ⟨_, rfl⟩
    rw [hp9] at HLK ⊢
    obtain ⟨i, rfl⟩ := Int.eq_ofNat_of_zero_le hi.1
    rw [Int.toNat_natCast]
    have HI := Lib.hid (show i < q.l.length from by have := hi.2; omega)
    obtain ⟨pf, hpf⟩ : ∃ z, p9.frm = z := ⟨_, rfl⟩
    obtain ⟨tp, htp⟩ : ∃ z, text p9.s = z := ⟨_, rfl⟩
    have HPA := Lib.hid (show p9.arr = #[.int .i64 pf, .string tp] from by simp only [Pk.arr, hpf, htp])
    have HTX := Lib.hid (show (Value.int .i64 p9.frm = .int .i64 pf) ∧ (Value.string (text p9.s) = .string tp) from by rw [← hpf, ← htp]; exact ⟨rfl, rfl⟩)
    simp only [HPA.out] at HLK
    clear hi he he2 hr9 hp9 hpf htp hm1 hml
    go_enter Try.func24, Try.ntmps24
    go_upto_region 1 with (fail)
    try rw [hB]
    clear hB
    have HLT := HP.out.lt
    generalize w.alloc (.cells #[.int .i64 0, .string ⟨#[]⟩] 43) = W1 at *
    go_upto_region 2 with (go_at_call 28; (with_reducible refine HLK.out.mono ?_); rintro e1 w1 ⟨rfl, hb1⟩; have HB1 := Lib.hid hb1; clear hb1)
    have HB2 := Lib.hid (HB.out.trans ((HB1.out.trans ((alloc_below w1 (.cells #[.int .i64 pf, .string tp] 43)).mono HB1.out.size)).mono HB.out.size))
    have HBX := Lib.hid (HB1.out.trans ((alloc_below w1 (.cells #[.int .i64 pf, .string tp] 43)).mono HB1.out.size))
    have HP0 := Lib.hid (HP.out.kept HBX.out)
    have HBB := Lib.hid (show B < w1.heap.size from Nat.lt_of_lt_of_le HLT HB1.out.size)
    have hp1 : PkB (w1.alloc (.cells #[.int .i64 pf, .string tp] 43)) w1.heap.size p9 := by unfold PkB; rw [HPA.out]; exact heap_alloc_new w1 _
    obtain ⟨B1, hB1⟩ : ∃ z, w1.heap.size = z := ⟨_, rfl⟩
    have HB1E := Lib.hid hB1
    rw [hB1] at hp1 ⊢
    have HP1 := Lib.hid hp1
    clear hp1 hB1
    generalize w1.alloc (.cells #[.int .i64 pf, .string tp] 43) = w2 at *
    have HB21 := Lib.hid (show Below W1.heap.size W1 w2 from HBX.out)
    have HGB := Lib.hid (show (∀ k, nfoot g v k → k < w.heap.size) from fun k hk => HH.out.lt hk)
    go_upto_region 4 with (go_at_call 33; (with_reducible refine (rnout_c (HH.out.below HB2.out) H64.out i HI.out).mono ?_); rintro e5 W5 ⟨rfl, v9, hn5, ht5, hf5⟩; have HNW := Lib.hid hn5; have HT5 := Lib.hid ht5; have HF5 := Lib.hid hf5; clear hn5 ht5 hf5)
    have HFT9 := Lib.hid (show ∀ k, nfoot g v9 k → nfoot g v k ∨ W1.heap.size ≤ k from fun k hk => (HF5.out k hk).imp id (fun h => Nat.le_trans HB21.out.size h))
    have HTR := Lib.hid ((TrN.of (F := nfoot g v) HB2.out).then HT5.out)
    have HFT := Lib.hid (show ∀ k, nfoot g v9 k → nfoot g v k ∨ w.heap.size ≤ k from fun k hk => (HF5.out k hk).imp id (fun h => Nat.le_trans HB2.out.size h))
    have hwr := wrap1 q.c1 HCB.out.1 HCB.out.2
    have HCC := Lib.hid (fun (W : World) (hW : SameN W5 W) => show W.cell? ⟨g, 3, none⟩ = some (.int .i64 q.c1) ∧ W.frozen? ⟨g, 3, none⟩ = false from by
      have hn := hW.nt HNW.out
      have := hn.cs
      exact ⟨by simp_all, hn.fz 3⟩)
    refine wp_region_inv [none, none, none, none, none, none, none, none, none, none, none, none, none, none, none, none, none, none, none, some 0, some 1, some 2, some 3, some 4, some 5, some 6, some 7, some 8, some 9, none, none] (fun i => [undef, undef, undef, undef, undef, undef, undef, undef, undef, undef, undef].getD i undef) (fun L xs W => InvQ [10] 11 (RvN [some (.pointer (some ⟨g, 0, none⟩)), some (.pointer (some ⟨g, 0, none⟩)), some (.pointer (some ⟨g, 0, none⟩)), some (.pointer (some ⟨g, 2, none⟩)), some (.pointer (some ⟨g, 3, none⟩)), some (.int .i64 q.c1), some (.int .i64 (q.c1 + 1)), some (.pointer (some ⟨g, 0, none⟩)), some (.pointer (some ⟨g, 2, none⟩)), some (.pointer (some ⟨g, 3, none⟩)), none]) (TurnR W5 g 3 (.int .i64 (q.c1 + 1))) L xs W ∧ ((L 10 = true → L 5 = true))) (by kernel_rfl) (by kernel_rfl) rfl rfl (fun L hL => ⟨InvQ.start hL (by decide) (by decide) (SameN.drawn _ _), (fun h => by rw [hL 10 (by decide)] at h; cases h)⟩) ?_ ?_
    · simp only [invOps, and_true]
      refine ⟨?_, ?_, ?_, ?_, ?_, ?_, ?_, ?_, ?_, ?_, ?_⟩
      · intro L xs W ⟨hI, hE⟩ hL hn
        have hE0 := hE
        simp only [flowAct, List.zipWith_cons_cons, List.zipWith_nil_left]
        go_wp2_with (fail)
        exact ⟨rfl, _, rfl, hI.pure 0 (by decide) (fun _ h => h) (fun x hx => by first | (injection hx with hx) | cases hx), hE0⟩
      · intro L xs W ⟨hI, hE⟩ hL hn
        have hE0 := hE
        simp only [flowAct, List.zipWith_cons_cons, List.zipWith_nil_left]
        go_wp2_with (fail)
        exact ⟨rfl, _, rfl, hI.pure 1 (by decide) (fun _ h => h) (fun x hx => by first | (injection hx with hx) | cases hx), hE0⟩
      · intro L xs W ⟨hI, hE⟩ hL hn
        simp [invNeeds, Region.binds] at hn
        have e1 : xs 1 = .pointer (some ⟨g, 0, none⟩) := hI.val 1 (by decide) (by simp only [hn]) _ rfl
        have hE0 := hE
        simp only [flowAct, List.zipWith_cons_cons, List.zipWith_nil_left]
        simp only [e1]
        go_wp2_with (fail)
        exact ⟨rfl, _, rfl, hI.pure 2 (by decide) (fun _ h => h) (fun x hx => by first | (injection hx with hx) | cases hx), hE0⟩
      · intro L xs W ⟨hI, hE⟩ hL hn
        simp [invNeeds, Region.binds] at hn
        have e2 : xs 2 = .pointer (some ⟨g, 0, none⟩) := hI.val 2 (by decide) (by simp only [hn]) _ rfl
        have hE0 := hE
        simp only [flowAct, List.zipWith_cons_cons, List.zipWith_nil_left]
        simp only [e2]
        go_wp2_with (fail)
        exact ⟨rfl, _, rfl, hI.pure 3 (by decide) (fun _ h => h) (fun x hx => by first | (injection hx with hx) | cases hx), hE0⟩
      · intro L xs W ⟨hI, hE⟩ hL hn
        simp [invNeeds, Region.binds] at hn
        have e3 : xs 3 = .pointer (some ⟨g, 2, none⟩) := hI.val 3 (by decide) (by simp only [hn]) _ rfl
        have hE0 := hE
        simp only [flowAct, List.zipWith_cons_cons, List.zipWith_nil_left]
        simp only [e3]
        go_wp2_with (fail)
        exact ⟨rfl, _, rfl, hI.pure 4 (by decide) (fun _ h => h) (fun x hx => by first | (injection hx with hx) | cases hx), hE0⟩
      · intro L xs W ⟨hI, hE⟩ hL hn
        simp [invNeeds, Region.binds] at hn
        have e4 : xs 4 = .pointer (some ⟨g, 3, none⟩) := hI.val 4 (by decide) (by simp only [hn]) _ rfl
        have hE0 := hE
        have Lb0 : L 10 = false := by
          cases h : L 10 with
          | false => rfl
          | true => have := hE0 h; rw [hL] at this; cases this
        obtain ⟨k9, hk9, hr9⟩ := hI.upto (j := 0) rfl Lb0
        obtain rfl : k9 = 0 := by omega
        have z1 := (HCC.out W hr9).1
        clear hr9
        simp only [flowAct, List.zipWith_cons_cons, List.zipWith_nil_left]
        simp only [e4]
        go_wp2_with (fail)
        exact ⟨rfl, _, rfl, hI.pure 5 (by decide) (fun _ h => h) (fun x hx => by first | (injection hx with hx) | cases hx), (fun _ => by simp)⟩
      · intro L xs W ⟨hI, hE⟩ hL hn
        simp [invNeeds, Region.binds] at hn
        have e5 : xs 5 = .int .i64 q.c1 := hI.val 5 (by decide) (by simp only [hn]) _ rfl
        have hE0 := hE
        simp only [flowAct, List.zipWith_cons_cons, List.zipWith_nil_left]
        simp only [e5]
        go_wp2_with (fail)
        exact ⟨rfl, _, rfl, hI.pure 6 (by decide) (fun _ h => h) (fun x hx => by first | (injection hx with hx) | cases hx), hE0⟩
      · intro L xs W ⟨hI, hE⟩ hL hn
        simp [invNeeds, Region.binds] at hn
        have e0 : xs 0 = .pointer (some ⟨g, 0, none⟩) := hI.val 0 (by decide) (by simp only [hn]) _ rfl
        have hE0 := hE
        simp only [flowAct, List.zipWith_cons_cons, List.zipWith_nil_left]
        simp only [e0]
        go_wp2_with (fail)
        exact ⟨rfl, _, rfl, hI.pure 7 (by decide) (fun _ h => h) (fun x hx => by first | (injection hx with hx) | cases hx), hE0⟩
      · intro L xs W ⟨hI, hE⟩ hL hn
        simp [invNeeds, Region.binds] at hn
        have e7 : xs 7 = .pointer (some ⟨g, 0, none⟩) := hI.val 7 (by decide) (by simp only [hn]) _ rfl
        have hE0 := hE
        simp only [flowAct, List.zipWith_cons_cons, List.zipWith_nil_left]
        simp only [e7]
        go_wp2_with (fail)
        exact ⟨rfl, _, rfl, hI.pure 8 (by decide) (fun _ h => h) (fun x hx => by first | (injection hx with hx) | cases hx), hE0⟩
      · intro L xs W ⟨hI, hE⟩ hL hn
        simp [invNeeds, Region.binds] at hn
        have e8 : xs 8 = .pointer (some ⟨g, 2, none⟩) := hI.val 8 (by decide) (by simp only [hn]) _ rfl
        have hE0 := hE
        simp only [flowAct, List.zipWith_cons_cons, List.zipWith_nil_left]
        simp only [e8]
        go_wp2_with (fail)
        exact ⟨rfl, _, rfl, hI.pure 9 (by decide) (fun _ h => h) (fun x hx => by first | (injection hx with hx) | cases hx), hE0⟩
      · intro L xs W ⟨hI, hE⟩ hL hn
        simp [invNeeds, Region.binds] at hn
        have e9 : xs 9 = .pointer (some ⟨g, 3, none⟩) := hI.val 9 (by decide) (by simp only [hn]) _ rfl
        have e6 : xs 6 = .int .i64 (q.c1 + 1) := hI.val 6 (by decide) (by simp only [hn]) _ rfl
        have hr := hI.at 0 rfl hL (fun p hp => absurd hp.1 (by omega))
        have hE0 := hE
        have Li0 : L 5 = true := by simp only [hn]
        have HR := Lib.hid hr
        obtain ⟨z1, z2⟩ := HCC.out W hr
        clear hr
        simp only [flowAct, List.zipWith_cons_cons, List.zipWith_nil_left]
        simp only [e9, e6]
        go_wp2_with (fail)
        exact ⟨rfl, undef, rfl, hI.step 0 rfl hL (fun p hp => absurd hp.1 (by omega)) (by decide) (⟨W, HR.out, rfl⟩) (fun x hx => by first | (injection hx with hx) | cases hx), (fun _ => by simpa using Li0)⟩
    · intro L xs W ⟨hI, hE⟩ hL
      have hdone := (hI.done hL (by decide) (by decide)).1
      obtain ⟨W6, hs6, rfl⟩ : ∃ W6, SameN W5 W6 ∧ W = W6.setCell ⟨g, 3, none⟩ (.int .i64 (q.c1 + 1)) := hdone
      have HS6 := Lib.hid hs6
      have HNW9 := Lib.hid (hs6.nt HNW.out)
      clear hs6 hI hE hL
      simp only [flowAct, List.zipWith_cons_cons, List.zipWith_nil_left]
      have HP6 := Lib.hid (show PkB W6 B1 p9 from by unfold PkB; rw [HS6.out.heap]; exact HT5.out.heap HP1.out (fun hf => by have h1 := HGB.out _ hf; have h2 := HBB.out; have h3 := HSB.out; have h4 := HB1E.out; omega))
      have HP7 := Lib.hid (show PkB W6 B Pk.zero from by unfold PkB; rw [HS6.out.heap]; exact HT5.out.heap HP0.out (fun hf => by have h1 := HGB.out _ hf; have h3 := HSB.out; omega))
      have HNE := Lib.hid (show B1 ≠ g ∧ B ≠ g from by have h0 := HGB.out g (.inl rfl); have h2 := HBB.out; have h3 := HSB.out; have h4 := HB1E.out; constructor <;> omega)
      have hB1' := HP6.out.other ⟨g, 3, none⟩ (.int .i64 (q.c1 + 1)) HNE.out.1
      have hB0' := HP7.out.other ⟨g, 3, none⟩ (.int .i64 (q.c1 + 1)) HNE.out.2
      have HW := Lib.hid (HNW9.out.bump1 (q.c1 + 1))
      have HT9 := Lib.hid (((TrN.of (F := nfoot g v) HB21.out).then HT5.out |>.then (TrN.of HS6.out.below)).set (p := ⟨g, 3, none⟩) (v := .int .i64 (q.c1 + 1)) (.inl (.inl rfl)))
      have HT6 := Lib.hid ((HTR.out.then (TrN.of HS6.out.below)).set (p := ⟨g, 3, none⟩) (v := .int .i64 (q.c1 + 1)) (.inl (.inl rfl)))
      generalize W6.setCell ⟨g, 3, none⟩ (.int .i64 (q.c1 + 1)) = W7 at *
      have HB0 := Lib.hid hB0'
      have l0 := hB1'.c0
      have l1 := hB1'.c1
      rw [HTX.out.1] at l0
      rw [HTX.out.2] at l1
      have z0 := hB0'.c0
      have z1 := hB0'.c1
      have f0 := hB0'.fz 0
      have f1 := hB0'.fz 1
      simp only [Pk.zero] at z0 z1
      clear hB0' hB1'
      go_wp2
      refine bodyPost_ret (res_cell_tmp rfl _ _ B 43 _ (0, 0) _ _ rfl rfl (by have := HB0.out.set p9; simp only [HTX.out.1, HTX.out.2] at this; exact this) Try.underlying43 rfl (by have := sizePk p9; rwa [HPA.out] at this)) rfl ⟨by rw [HPA.out]; rfl, ?_⟩
      have hwB : B < W1.heap.size := HLT
      refine nres (w := w) (W1 := W1) (w2 := W7) HB.out HGB.out ⟨_, ⟨v9, HW.out, rfl⟩, ?_, fun k hk => (HFT9.out k hk)⟩ (((TrN.refl (F := fun k => k = B)).set (p := ⟨B, 0, none⟩) (.inl rfl)).set (p := ⟨B, 1, none⟩) (.inl rfl)) (Nat.le_of_eq HSB.out) hwB
      exact HT9.out
  · have he : q.look i9 = (Pk.zero, 211) := by unfold Nt.look; rw [if_neg hi]
    have he2 : q.took i9 = q := by unfold Nt.took; rw [if_neg hi]
    rw [he2]
    rw [he] at HLK ⊢
    have hza : Pk.arr Pk.zero = #[.int .i64 0, .string ⟨#[]⟩] := rfl
    simp only [hza] at HLK ⊢
    clear hi he he2 hza hm1 hml
    go_enter Try.func24, Try.ntmps24
    go_upto_region 1 with (fail)
    try rw [hB]
    clear hB
    have HLT := HP.out.lt
    generalize w.alloc (.cells #[.int .i64 0, .string ⟨#[]⟩] 43) = W1 at *
    go_upto_region 2 with (go_at_call 28; (with_reducible refine HLK.out.mono ?_); rintro e1 w1 ⟨rfl, hb1⟩; have HB1 := Lib.hid hb1; clear hb1)
    have HBX := Lib.hid (HB1.out.trans ((alloc_below w1 (.cells #[.int .i64 0, .string ⟨#[]⟩] 43)).mono HB1.out.size))
    have HP1 := Lib.hid (show PkB (w1.alloc (.cells #[.int .i64 0, .string ⟨#[]⟩] 43)) w1.heap.size Pk.zero from heap_alloc_new w1 _)
    have HP0 := Lib.hid (HP.out.kept HBX.out)
    obtain ⟨B1, hB1⟩ : ∃ z, w1.heap.size = z := ⟨_, rfl⟩
    rw [hB1] at HP1 ⊢
    clear hB1
    generalize w1.alloc (.cells #[.int .i64 0, .string ⟨#[]⟩] 43) = w2 at *
    have l0 := HP1.out.c0
    have l1 := HP1.out.c1
    have z0 := HP0.out.c0
    have z1 := HP0.out.c1
    have f0 := HP0.out.fz 0
    have f1 := HP0.out.fz 1
    simp only [Pk.zero] at z0 z1 l0 l1
    go_wp2
    have HFB : Below w.heap.size w ((w2.setCell ⟨B, 0, none⟩ (.int .i64 0)).setCell ⟨B, 1, none⟩ (.string ⟨#[]⟩)) := ((HB.out.trans (HBX.out.mono HB.out.size)).setCell (p := ⟨B, 0, none⟩) (Nat.le_of_eq HSB.out) _).setCell (p := ⟨B, 1, none⟩) (Nat.le_of_eq HSB.out) _
    exact bodyPost_ret (res_cell_tmp rfl _ _ B 43 _ (0, 0) _ _ rfl rfl (HP0.out.set Pk.zero) Try.underlying43 rfl (sizePk Pk.zero)) rfl ⟨by rfl, _, ⟨v, HH.out.below HFB, rfl⟩, TrN.of HFB, fun k hk => .inl hk⟩
end Go.Proofs.Ytngfohedddcboaa
