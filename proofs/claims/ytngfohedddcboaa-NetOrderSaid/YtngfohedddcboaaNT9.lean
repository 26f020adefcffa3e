/-
  Net: the reference: Send, Take, Drop, Twice.
-/
import Derived.Test.YtngfohedddcboaaNT8
namespace Go.Proofs.Ytngfohedddcboaa
open Go.RowKit Go Go.Sort Go.Lib Go.Maps
set_option linter.unusedVariables false
set_option maxRecDepth 20000

/-- The operation s waits for the first m. -/
def AllN (s m : Nat) (L : Nat → Bool) : Prop := L s = true → ∀ i, i < m → L i = true
theorem AllN.step {s m : Nat} {L : Nat → Bool} (h : AllN s m L) (k : Nat) (hk : k ≠ s) : AllN s m (fun j => if j = k then true else L j) := fun hs i hi => by
  by_cases e : i = k
  · simp [e]
  · simp only [if_neg e, if_neg (Ne.symm hk)] at hs ⊢
    exact h hs i hi
theorem AllN.last {s m : Nat} {L : Nat → Bool} (hm : m ≤ s) (h : ∀ i, i < m → L i = true) : AllN s m (fun j => if j = s then true else L j) := fun _ i hi => by
  simp only [if_neg (show ¬ i = s by omega)]
  exact h i hi
theorem AllN.no {s m i : Nat} {L : Nat → Bool} (h : AllN s m L) (hi : i < m) (hL : L i = false) : L s = false := by
  cases h9 : L s with
  | false => rfl
  | true => rw [h h9 i hi] at hL; cases hL
/-- A count in a box of the reference. -/
theorem wrap1 (x : Int) (h0 : 0 ≤ x) (h1 : x ≤ 100000) : IntKind.i64.wrap (x + 1) = x + 1 := by rw [IntKind.wrap_i64]; omega
set_option maxRecDepth 100000 in
set_option maxHeartbeats 6400000 in
theorem rnsend_c {w : World} {g nn : Nat} {q : Nt} {F : Nat → Prop} (hk : Nk w 60 g q F) (ho : q.Ok nn) (hnn : nn ≤ 100000) (frm : Int) {a9 : Option Addr} {m9 c9 : Nat} {l : List UInt8} (hb : Bys w a9 m9 c9 l) : Calls Try.prog 23 #[.pointer (some ⟨g, 0, none⟩), .int .i64 frm, .slice a9 m9 c9] w (NPost 60 g F (.int .i64 (q.send frm l).1) (q.send frm l).2 w) := by
  have HK := Lib.hid hk
  have hln := hb.len
  have HBY := Lib.hid hb
  obtain ⟨v, h, rfl⟩ := hk
  have HCB := Lib.hid (show 0 ≤ q.c0 ∧ q.c0 ≤ 100000 from by have := ho.b0; omega)
  have hm0 := ho.m0
  have hm1 := ho.m1
  have hml := ho.len
  have H64 := Lib.hid (show q.l.length ≤ 64 from by omega)
  obtain ⟨va, cap, hv, -⟩ := h.sl
  have y0 := h.cs.1
  have y1 := h.cs.2.1
  rw [hv] at y1
  obtain ⟨n, hn⟩ : ∃ z, q.l.length = z := ⟨_, rfl⟩
  rw [hn] at y1 hml
  unfold Nt.send
  rw [hn]
  have HH := Lib.hid h
  have HV := Lib.hid (show v = .slice va n cap from by rw [hv, hn])
  clear h ho hb hv
  by_cases hf : ¬ (frm = 1 ∨ frm = 2)
  · rw [if_pos hf]
    have h1 : (frm != 1) = true := by simp; omega
    have h2 : (frm != 2) = true := by simp; omega
    clear hf hn hm0 hm1 hml
    go_enter Try.func23, Try.ntmps23
    go_wp2
    go_ret
    exact nk_same HK.out _
  · rw [if_neg hf]
    by_cases hl : 1048592 < l.length
    · rw [if_pos hl]
      have hl2 : (1048592 : Int) < (m9 : Int) := by omega
      clear hn hm0 hm1 hml
      rcases (by omega : frm = 1 ∨ frm = 2) with rfl | rfl
      · have h1 : ((1 : Int) != 1) = false := rfl
        clear hf
        go_enter Try.func23, Try.ntmps23
        go_wp2
        go_ret
        exact nk_same HK.out _
      · have h1 : ((2 : Int) != 1) = true := rfl
        have h2 : ((2 : Int) != 2) = false := rfl
        clear hf
        go_enter Try.func23, Try.ntmps23
        go_wp2
        go_ret
        exact nk_same HK.out _
    · rw [if_neg hl]
      have hl2 : ¬ (1048592 : Int) < (m9 : Int) := by omega
      obtain ⟨b1, hb1⟩ : ∃ z, (frm != 1) = z := ⟨_, rfl⟩
      have hb2 : b1 = true → (frm != 2) = false := fun e => by subst e; simp at hb1 ⊢; omega
      have HFM := Lib.hid (And.intro hf hl)
      clear hf hl hm0 hm1
      by_cases hq : q.most ≤ (n : Int)
      · rw [if_pos hq]
        clear hn
        cases b1
        · clear hb2
          go_enter Try.func23, Try.ntmps23
          go_upto_region 5 with (fail)
          go_quiet (fail)
          go_wp2
          go_ret
          exact ⟨rfl, _, HK.out.below ⟨rfl, rfl, rfl, Nat.le_refl _, fun _ _ => rfl⟩, TrN.of ⟨rfl, rfl, rfl, Nat.le_refl _, fun _ _ => rfl⟩, fun k hk => .inl hk⟩
        · have hb2 := hb2 rfl
          go_enter Try.func23, Try.ntmps23
          go_upto_region 5 with (fail)
          go_quiet (fail)
          go_wp2
          go_ret
          exact ⟨rfl, _, HK.out.below ⟨rfl, rfl, rfl, Nat.le_refl _, fun _ _ => rfl⟩, TrN.of ⟨rfl, rfl, rfl, Nat.le_refl _, fun _ _ => rfl⟩, fun k hk => .inl hk⟩
      · rw [if_neg hq]
        have htp9 := conv_bys (w := w) HBY.out (P := Try.prog) Try.underlying29 Try.underlying5 Try.underlying9
        obtain ⟨tp, htp⟩ : ∃ z, text l = z := ⟨_, rfl⟩
        have HXA := Lib.hid (show #[.int .i64 frm, .string tp] = Pk.arr ⟨frm, l⟩ from by simp only [Pk.arr, htp])
        have HTP := Lib.hid htp
        clear htp9 htp hn
        cases b1
        · clear hb2
          go_enter Try.func23, Try.ntmps23
          go_upto_region 5 with (fail)
          go_quiet (fail)
          go_upto_region 7 with (fail)
          have hs : SameN w (w.drewN nq) := ⟨rfl, rfl, rfl, rfl⟩
          have HB8 := Lib.hid hs.below
          have HN8' := Lib.hid (hs.nt HH.out)
          have HBY8 := Lib.hid (HBY.out.below hs.below)
          clear y0 y1 hs hq
          generalize w.drewN nq = w8 at *
          have HC := Lib.hid (fun (W : World) (hW : Below w8.heap.size w8 W) => show W.cell? ⟨g, 1, none⟩ = some (.slice va n cap) ∧ W.frozen? ⟨g, 1, none⟩ = false from by
            have := (HN8'.out.below hW).cs.2.1
            rw [HV.out] at this
            exact ⟨this, (HN8'.out.below hW).fz 1⟩)
          have HCV := Lib.hid (fun (W : World) (hW : Below w8.heap.size w8 W) => show (convert 29 9 (.slice a9 m9 c9)).run Try.prog W = .ok (.string tp) W from by
            rw [← HTP.out]
            exact conv_bys (HBY8.out.below hW) Try.underlying29 Try.underlying5 Try.underlying9)
          have hn8 := HN8'.out
          rw [HV.out] at hn8
          have HN8 := Lib.hid hn8
          clear hn8
          refine wp_region_inv [none, none, none, none, none, none, none, none, none, none, none, none, none, none, none, none, none, none, none, none, none, none, none, none, none, none, some 0, some 1, some 2, some 3, some 4, some 5, some 6, some 7, some 8, some 9, some 10, some 11, some 12, some 13, some 14, none, none, none, none, none, none, none, none, none, none] (fun i => [undef, undef, undef, undef, undef, undef, undef, undef, undef, undef, undef, undef, undef, undef, undef, undef].getD i undef) (fun L xs W => CpInv w8 g q.l (⟨frm, l⟩ : Pk) 1 6 11 12 15 16 [some (.pointer (some ⟨g, 0, none⟩)), none, some (.pointer (some ⟨g, 0, none⟩)), some (.pointer (some ⟨g, 0, none⟩)), some (.pointer (some ⟨g, 1, none⟩)), some (.slice va n cap), none, some (.int .i64 frm), some (.slice a9 m9 c9), some (.string tp), some (.agg #[.int .i64 frm, .string tp]), none, none, some (.pointer (some ⟨g, 0, none⟩)), some (.pointer (some ⟨g, 1, none⟩)), none] L xs W ∧ AllN 15 13 L) (by kernel_rfl) (by kernel_rfl) rfl rfl (fun L hL => ⟨CpInv.start hL (by decide) (by decide) (SameN.drawn _ _).below, fun h => by rw [hL 15 (by decide)] at h; cases h⟩) ?_ ?_
          · simp only [invOps, and_true]
            refine ⟨?_, ?_, ?_, ?_, ?_, ?_, ?_, ?_, ?_, ?_, ?_, ?_, ?_, ?_, ?_, ?_⟩
            · intro L xs W ⟨hI, hA⟩ hL hn
              simp only [flowAct, List.zipWith_cons_cons, List.zipWith_nil_left]
              go_wp2_with (fail)
              exact ⟨rfl, _, rfl, hI.pure 0 (by decide) (fun x hx => by first | (injection hx with hx) | cases hx), hA.step 0 (by decide)⟩
            · intro L xs W ⟨hI, hA⟩ hL hn
              simp only [flowAct, List.zipWith_cons_cons, List.zipWith_nil_left]
              go_wp2_with (fail)
              exact ⟨rfl, _, rfl, hI.stepE (by decide) hL (fun x hx => by first | (injection hx with hx) | cases hx) rfl, hA.step 1 (by decide)⟩
            · intro L xs W ⟨hI, hA⟩ hL hn
              simp only [flowAct, List.zipWith_cons_cons, List.zipWith_nil_left]
              go_wp2_with (fail)
              exact ⟨rfl, _, rfl, hI.pure 2 (by decide) (fun x hx => by first | (injection hx with hx) | cases hx), hA.step 2 (by decide)⟩
            · intro L xs W ⟨hI, hA⟩ hL hn
              simp [invNeeds, Region.binds] at hn
              have e2 : xs 2 = .pointer (some ⟨g, 0, none⟩) := hI.val 2 (by decide) (by simp only [hn]) _ rfl
              simp only [flowAct, List.zipWith_cons_cons, List.zipWith_nil_left]
              simp only [e2]
              go_wp2_with (fail)
              exact ⟨rfl, _, rfl, hI.pure 3 (by decide) (fun x hx => by first | (injection hx with hx) | cases hx), hA.step 3 (by decide)⟩
            · intro L xs W ⟨hI, hA⟩ hL hn
              simp [invNeeds, Region.binds] at hn
              have e3 : xs 3 = .pointer (some ⟨g, 0, none⟩) := hI.val 3 (by decide) (by simp only [hn]) _ rfl
              simp only [flowAct, List.zipWith_cons_cons, List.zipWith_nil_left]
              simp only [e3]
              go_wp2_with (fail)
              exact ⟨rfl, _, rfl, hI.pure 4 (by decide) (fun x hx => by first | (injection hx with hx) | cases hx), hA.step 4 (by decide)⟩
            · intro L xs W ⟨hI, hA⟩ hL hn
              simp [invNeeds, Region.binds] at hn
              have e4 : xs 4 = .pointer (some ⟨g, 1, none⟩) := hI.val 4 (by decide) (by simp only [hn]) _ rfl
              have z1 := (HC.out W (hI.below (hA.no (i := 5) (by decide) hL))).1
              simp only [flowAct, List.zipWith_cons_cons, List.zipWith_nil_left]
              simp only [e4]
              go_wp2_with (fail)
              exact ⟨rfl, _, rfl, hI.pure 5 (by decide) (fun x hx => by first | (injection hx with hx) | cases hx), hA.step 5 (by decide)⟩
            · intro L xs W ⟨hI, hA⟩ hL hn
              simp [invNeeds, Region.binds] at hn
              have e5 : xs 5 = .slice va n cap := hI.val 5 (by decide) (by simp only [hn]) _ rfl
              have hLe : L 1 = true := by simp only [hn]
              obtain ⟨g1, ee, oe, ce⟩ := hI.emp hLe hL
              have HB := Lib.hid (hI.below (hI.nos (hI.noc (.inl hL))))
              have HOE := Lib.hid (And.intro oe ce)
              clear oe ce
              simp only [flowAct, List.zipWith_cons_cons, List.zipWith_nil_left]
              simp only [e5, ee]
              go_wp2_with (refine wpList_append_cp (w8 := w8) (x := (⟨frm, l⟩ : Pk)) rfl _ _ rfl (g := g) (v := .slice va n cap) (q := q) rfl HOE.out.1 HOE.out.2 rfl (HN8.out.below HB.out) H64.out HB.out ?_; intro v9 w9 ho9 hb9 hk9)
              exact ⟨rfl, _, rfl, hI.stepA (by decide) hL hLe (fun x hx => by first | (injection hx with hx) | cases hx) hb9 ho9 hk9, hA.step 6 (by decide)⟩
            · intro L xs W ⟨hI, hA⟩ hL hn
              simp only [flowAct, List.zipWith_cons_cons, List.zipWith_nil_left]
              go_wp2_with (fail)
              exact ⟨rfl, _, rfl, hI.pure 7 (by decide) (fun x hx => by first | (injection hx with hx) | cases hx), hA.step 7 (by decide)⟩
            · intro L xs W ⟨hI, hA⟩ hL hn
              simp only [flowAct, List.zipWith_cons_cons, List.zipWith_nil_left]
              go_wp2_with (fail)
              exact ⟨rfl, _, rfl, hI.pure 8 (by decide) (fun x hx => by first | (injection hx with hx) | cases hx), hA.step 8 (by decide)⟩
            · intro L xs W ⟨hI, hA⟩ hL hn
              simp [invNeeds, Region.binds] at hn
              have e8 : xs 8 = .slice a9 m9 c9 := hI.val 8 (by decide) (by simp only [hn]) _ rfl
              have cv := HCV.out W (hI.below (hA.no (i := 9) (by decide) hL))
              simp only [flowAct, List.zipWith_cons_cons, List.zipWith_nil_left]
              simp only [e8]
              go_wp2_with (fail)
              exact ⟨rfl, _, rfl, hI.pure 9 (by decide) (fun x hx => by first | (injection hx with hx) | cases hx), hA.step 9 (by decide)⟩
            · intro L xs W ⟨hI, hA⟩ hL hn
              simp [invNeeds, Region.binds] at hn
              have e7 : xs 7 = .int .i64 frm := hI.val 7 (by decide) (by simp only [hn]) _ rfl
              have e9 : xs 9 = .string tp := hI.val 9 (by decide) (by simp only [hn]) _ rfl
              simp only [flowAct, List.zipWith_cons_cons, List.zipWith_nil_left]
              simp only [e7, e9]
              go_wp2_with (fail)
              exact ⟨rfl, _, rfl, hI.pure 10 (by decide) (fun x hx => by first | (injection hx with hx) | cases hx), hA.step 10 (by decide)⟩
            · intro L xs W ⟨hI, hA⟩ hL hn
              simp [invNeeds, Region.binds] at hn
              have e10 : xs 10 = .agg #[.int .i64 frm, .string tp] := hI.val 10 (by decide) (by simp only [hn]) _ rfl
              simp only [flowAct, List.zipWith_cons_cons, List.zipWith_nil_left]
              simp only [e10]
              go_wp2_with (fail)
              exact ⟨rfl, _, rfl, hI.stepB (by decide) hL (fun x hx => by first | (injection hx with hx) | cases hx) rfl HXA.out, hA.step 11 (by decide)⟩
            · intro L xs W ⟨hI, hA⟩ hL hn
              simp [invNeeds, Region.binds] at hn
              have hLa : L 6 = true := by simp only [hn]
              have hLb : L 11 = true := by simp only [hn]
              obtain ⟨b9, eb, pb⟩ := hI.box hLb hL
              have HB := Lib.hid (hI.below (hI.nos hL))
              have HOA := Lib.hid (hI.one hLa hL)
              have HPB := Lib.hid pb
              clear pb
              simp only [flowAct, List.zipWith_cons_cons, List.zipWith_nil_left]
              simp only [eb]
              go_wp2_with (refine wpList_append_pk rfl _ _ rfl rfl HOA.out (⟨frm, l⟩ : Pk) rfl HPB.out (by have := H64.out; omega) HB.out.size ?_; intro v9 w9 ho9 hg9 ha9)
              exact ⟨rfl, _, rfl, hI.stepC (by decide) hL hLa hLb (fun x hx => by first | (injection hx with hx) | cases hx) (HB.out.grown hg9 HB.out.size (fun k hk => (HOA.out.lt k hk).1)) ho9, hA.step 12 (by decide)⟩
            · intro L xs W ⟨hI, hA⟩ hL hn
              simp [invNeeds, Region.binds] at hn
              have e0 : xs 0 = .pointer (some ⟨g, 0, none⟩) := hI.val 0 (by decide) (by simp only [hn]) _ rfl
              simp only [flowAct, List.zipWith_cons_cons, List.zipWith_nil_left]
              simp only [e0]
              go_wp2_with (fail)
              exact ⟨rfl, _, rfl, hI.pure 13 (by decide) (fun x hx => by first | (injection hx with hx) | cases hx), hA.step 13 (by decide)⟩
            · intro L xs W ⟨hI, hA⟩ hL hn
              simp [invNeeds, Region.binds] at hn
              have e13 : xs 13 = .pointer (some ⟨g, 0, none⟩) := hI.val 13 (by decide) (by simp only [hn]) _ rfl
              simp only [flowAct, List.zipWith_cons_cons, List.zipWith_nil_left]
              simp only [e13]
              go_wp2_with (fail)
              exact ⟨rfl, _, rfl, hI.pure 14 (by decide) (fun x hx => by first | (injection hx with hx) | cases hx), hA.step 14 (by decide)⟩
            · intro L xs W ⟨hI, hA⟩ hL hn
              simp [invNeeds, Region.binds] at hn
              have e14 : xs 14 = .pointer (some ⟨g, 1, none⟩) := hI.val 14 (by decide) (by simp only [hn]) _ rfl
              have hLc : L 12 = true := by simp only [hn]
              have h2c := hI.two hLc hL
              have hb8 := hI.below hL
              obtain ⟨wa, wc, ec, -⟩ := OwnL.ls (z := Pk.zero) pk_size h2c
              obtain ⟨wm, hwm⟩ : ∃ z, (q.l ++ [(⟨frm, l⟩ : Pk)]).length = z := ⟨_, rfl⟩
              rw [hwm] at ec
              obtain ⟨z1, z2⟩ := HC.out W hb8
              clear h2c hb8 hwm
              simp only [flowAct, List.zipWith_cons_cons, List.zipWith_nil_left]
              simp only [e14, ec]
              go_wp2_with (fail)
              exact ⟨rfl, undef, rfl, hI.stepS (by decide) hL hLc (fun x hx => by first | (injection hx with hx) | cases hx) ec, AllN.last (by decide) (fun i hi => by rcases (by omega : i = 0 ∨ i = 1 ∨ i = 2 ∨ i = 3 ∨ i = 4 ∨ i = 5 ∨ i = 6 ∨ i = 7 ∨ i = 8 ∨ i = 9 ∨ i = 10 ∨ i = 11 ∨ i = 12) with rfl | rfl | rfl | rfl | rfl | rfl | rfl | rfl | rfl | rfl | rfl | rfl | rfl <;> simp only [hn])⟩
          · intro L xs W ⟨hI, hA⟩ hL
            obtain ⟨W3, v9, hb3, ho3, rfl⟩ := hI.fin (hL 15 (by decide))
            obtain ⟨hnw, htr, hft⟩ := HN8'.out.copied hb3 ho3 HB8.out
            have HNW := Lib.hid hnw
            have HTR := Lib.hid htr
            have HFT := Lib.hid hft
            clear hnw htr hft hb3 ho3 hI hL hA
            simp only [flowAct, List.zipWith_cons_cons, List.zipWith_nil_left]
            generalize W3.setCell ⟨g, 1, none⟩ v9 = W5 at *
            go_upto_region 8 with (fail)
            have hwr := wrap1 q.c0 HCB.out.1 HCB.out.2
            have HCC := Lib.hid (fun (W : World) (hW : SameN W5 W) => show W.cell? ⟨g, 2, none⟩ = some (.int .i64 q.c0) ∧ W.frozen? ⟨g, 2, none⟩ = false from by
              have hn := hW.nt HNW.out
              have := hn.cs
              exact ⟨by simp_all, hn.fz 2⟩)
            refine wp_region_inv [none, none, none, none, none, none, none, none, none, none, none, none, none, none, none, none, none, none, none, none, none, none, none, none, none, none, none, none, none, none, none, none, none, none, none, none, none, none, none, none, none, some 0, some 1, some 2, some 3, some 4, some 5, some 6, some 7, some 8, some 9] (fun i => [undef, undef, undef, undef, undef, undef, undef, undef, undef, undef, undef].getD i undef) (fun L xs W => InvQ [10] 11 (RvN [some (.pointer (some ⟨g, 0, none⟩)), some (.pointer (some ⟨g, 0, none⟩)), some (.pointer (some ⟨g, 0, none⟩)), some (.pointer (some ⟨g, 2, none⟩)), some (.pointer (some ⟨g, 2, none⟩)), some (.int .i64 q.c0), some (.int .i64 (q.c0 + 1)), some (.pointer (some ⟨g, 0, none⟩)), some (.pointer (some ⟨g, 2, none⟩)), some (.pointer (some ⟨g, 2, none⟩)), none]) (TurnR W5 g 2 (.int .i64 (q.c0 + 1))) L xs W ∧ ((L 10 = true → L 5 = true))) (by kernel_rfl) (by kernel_rfl) rfl rfl (fun L hL => ⟨InvQ.start hL (by decide) (by decide) (SameN.drawn _ _), (fun h => by rw [hL 10 (by decide)] at h; cases h)⟩) ?_ ?_
            · simp only [invOps, and_true]
              refine ⟨?_, ?_, ?_, ?_, ?_, ?_, ?_, ?_, ?_, ?_, ?_⟩
              · intro L xs W ⟨hI, hE⟩ hL hn
                have hE0 := hE
                simp only [flowAct, List.zipWith_cons_cons, List.zipWith_nil_left]
                go_wp2_with (fail)
                exact ⟨rfl, _, rfl, hI.pure 0 (by decide) (fun _ h => h) (fun x hx => by first | (injection hx with hx) | cases hx), hE0⟩
              · intro L xs W ⟨hI, hE⟩ hL hn
                have hE0 := hE
                simp only [flowAct, List.zipWith_cons_cons, List.zipWith_nil_left]
                go_wp2_with (fail)
                exact ⟨rfl, _, rfl, hI.pure 1 (by decide) (fun _ h => h) (fun x hx => by first | (injection hx with hx) | cases hx), hE0⟩
              · intro L xs W ⟨hI, hE⟩ hL hn
                simp [invNeeds, Region.binds] at hn
                have e1 : xs 1 = .pointer (some ⟨g, 0, none⟩) := hI.val 1 (by decide) (by simp only [hn]) _ rfl
                have hE0 := hE
                simp only [flowAct, List.zipWith_cons_cons, List.zipWith_nil_left]
                simp only [e1]
                go_wp2_with (fail)
                exact ⟨rfl, _, rfl, hI.pure 2 (by decide) (fun _ h => h) (fun x hx => by first | (injection hx with hx) | cases hx), hE0⟩
              · intro L xs W ⟨hI, hE⟩ hL hn
                simp [invNeeds, Region.binds] at hn
                have e2 : xs 2 = .pointer (some ⟨g, 0, none⟩) := hI.val 2 (by decide) (by simp only [hn]) _ rfl
                have hE0 := hE
                simp only [flowAct, List.zipWith_cons_cons, List.zipWith_nil_left]
                simp only [e2]
                go_wp2_with (fail)
                exact ⟨rfl, _, rfl, hI.pure 3 (by decide) (fun _ h => h) (fun x hx => by first | (injection hx with hx) | cases hx), hE0⟩
              · intro L xs W ⟨hI, hE⟩ hL hn
                simp [invNeeds, Region.binds] at hn
                have e3 : xs 3 = .pointer (some ⟨g, 2, none⟩) := hI.val 3 (by decide) (by simp only [hn]) _ rfl
                have hE0 := hE
                simp only [flowAct, List.zipWith_cons_cons, List.zipWith_nil_left]
                simp only [e3]
                go_wp2_with (fail)
                exact ⟨rfl, _, rfl, hI.pure 4 (by decide) (fun _ h => h) (fun x hx => by first | (injection hx with hx) | cases hx), hE0⟩
              · intro L xs W ⟨hI, hE⟩ hL hn
                simp [invNeeds, Region.binds] at hn
                have e4 : xs 4 = .pointer (some ⟨g, 2, none⟩) := hI.val 4 (by decide) (by simp only [hn]) _ rfl
                have hE0 := hE
                have Lb0 : L 10 = false := by
                  cases h : L 10 with
                  | false => rfl
                  | true => have := hE0 h; rw [hL] at this; cases this
                obtain ⟨k9, hk9, hr9⟩ := hI.upto (j := 0) rfl Lb0
                obtain rfl : k9 = 0 := by omega
                have z1 := (HCC.out W hr9).1
                clear hr9
                simp only [flowAct, List.zipWith_cons_cons, List.zipWith_nil_left]
                simp only [e4]
                go_wp2_with (fail)
                exact ⟨rfl, _, rfl, hI.pure 5 (by decide) (fun _ h => h) (fun x hx => by first | (injection hx with hx) | cases hx), (fun _ => by simp)⟩
              · intro L xs W ⟨hI, hE⟩ hL hn
                simp [invNeeds, Region.binds] at hn
                have e5 : xs 5 = .int .i64 q.c0 := hI.val 5 (by decide) (by simp only [hn]) _ rfl
                have hE0 := hE
                simp only [flowAct, List.zipWith_cons_cons, List.zipWith_nil_left]
                simp only [e5]
                go_wp2_with (fail)
                exact ⟨rfl, _, rfl, hI.pure 6 (by decide) (fun _ h => h) (fun x hx => by first | (injection hx with hx) | cases hx), hE0⟩
              · intro L xs W ⟨hI, hE⟩ hL hn
                simp [invNeeds, Region.binds] at hn
                have e0 : xs 0 = .pointer (some ⟨g, 0, none⟩) := hI.val 0 (by decide) (by simp only [hn]) _ rfl
                have hE0 := hE
                simp only [flowAct, List.zipWith_cons_cons, List.zipWith_nil_left]
                simp only [e0]
                go_wp2_with (fail)
                exact ⟨rfl, _, rfl, hI.pure 7 (by decide) (fun _ h => h) (fun x hx => by first | (injection hx with hx) | cases hx), hE0⟩
              · intro L xs W ⟨hI, hE⟩ hL hn
                simp [invNeeds, Region.binds] at hn
                have e7 : xs 7 = .pointer (some ⟨g, 0, none⟩) := hI.val 7 (by decide) (by simp only [hn]) _ rfl
                have hE0 := hE
                simp only [flowAct, List.zipWith_cons_cons, List.zipWith_nil_left]
                simp only [e7]
                go_wp2_with (fail)
                exact ⟨rfl, _, rfl, hI.pure 8 (by decide) (fun _ h => h) (fun x hx => by first | (injection hx with hx) | cases hx), hE0⟩
              · intro L xs W ⟨hI, hE⟩ hL hn
                simp [invNeeds, Region.binds] at hn
                have e8 : xs 8 = .pointer (some ⟨g, 2, none⟩) := hI.val 8 (by decide) (by simp only [hn]) _ rfl
                have hE0 := hE
                simp only [flowAct, List.zipWith_cons_cons, List.zipWith_nil_left]
                simp only [e8]
                go_wp2_with (fail)
                exact ⟨rfl, _, rfl, hI.pure 9 (by decide) (fun _ h => h) (fun x hx => by first | (injection hx with hx) | cases hx), hE0⟩
              · intro L xs W ⟨hI, hE⟩ hL hn
                simp [invNeeds, Region.binds] at hn
                have e9 : xs 9 = .pointer (some ⟨g, 2, none⟩) := hI.val 9 (by decide) (by simp only [hn]) _ rfl
                have e6 : xs 6 = .int .i64 (q.c0 + 1) := hI.val 6 (by decide) (by simp only [hn]) _ rfl
                have hr := hI.at 0 rfl hL (fun p hp => absurd hp.1 (by omega))
                have hE0 := hE
                have Li0 : L 5 = true := by simp only [hn]
                have HR := Lib.hid hr
                obtain ⟨z1, z2⟩ := HCC.out W hr
                clear hr
                simp only [flowAct, List.zipWith_cons_cons, List.zipWith_nil_left]
                simp only [e9, e6]
                go_wp2_with (fail)
                exact ⟨rfl, undef, rfl, hI.step 0 rfl hL (fun p hp => absurd hp.1 (by omega)) (by decide) (⟨W, HR.out, rfl⟩) (fun x hx => by first | (injection hx with hx) | cases hx), (fun _ => by simpa using Li0)⟩
            · intro L xs W ⟨hI, hE⟩ hL
              have hdone := (hI.done hL (by decide) (by decide)).1
              obtain ⟨W6, hs6, rfl⟩ : ∃ W6, SameN W5 W6 ∧ W = W6.setCell ⟨g, 2, none⟩ (.int .i64 (q.c0 + 1)) := hdone
              have HS6 := Lib.hid hs6
              have HNW9 := Lib.hid (hs6.nt HNW.out)
              clear hs6 hI hE hL
              simp only [flowAct, List.zipWith_cons_cons, List.zipWith_nil_left]
              go_wp2
              go_ret
              refine ⟨rfl, _, ⟨v9, HNW9.out.bump0 (q.c0 + 1), rfl⟩, ?_, HFT.out⟩
              exact (HTR.out.then (TrN.of HS6.out.below)).set (.inl (.inl rfl))
        · have hb2 := hb2 rfl
          go_enter Try.func23, Try.ntmps23
          go_upto_region 5 with (fail)
          go_quiet (fail)
          go_upto_region 7 with (fail)
          have hs : SameN w (w.drewN nq) := ⟨rfl, rfl, rfl, rfl⟩
          have HB8 := Lib.hid hs.below
          have HN8' := Lib.hid (hs.nt HH.out)
          have HBY8 := Lib.hid (HBY.out.below hs.below)
          clear y0 y1 hs hq
          generalize w.drewN nq = w8 at *
          have HC := Lib.hid (fun (W : World) (hW : Below w8.heap.size w8 W) => show W.cell? ⟨g, 1, none⟩ = some (.slice va n cap) ∧ W.frozen? ⟨g, 1, none⟩ = false from by
            have := (HN8'.out.below hW).cs.2.1
            rw [HV.out] at this
            exact ⟨this, (HN8'.out.below hW).fz 1⟩)
          have HCV := Lib.hid (fun (W : World) (hW : Below w8.heap.size w8 W) => show (convert 29 9 (.slice a9 m9 c9)).run Try.prog W = .ok (.string tp) W from by
            rw [← HTP.out]
            exact conv_bys (HBY8.out.below hW) Try.underlying29 Try.underlying5 Try.underlying9)
          have hn8 := HN8'.out
          rw [HV.out] at hn8
          have HN8 := Lib.hid hn8
          clear hn8
          refine wp_region_inv [none, none, none, none, none, none, none, none, none, none, none, none, none, none, none, none, none, none, none, none, none, none, none, none, none, none, some 0, some 1, some 2, some 3, some 4, some 5, some 6, some 7, some 8, some 9, some 10, some 11, some 12, some 13, some 14, none, none, none, none, none, none, none, none, none, none] (fun i => [undef, undef, undef, undef, undef, undef, undef, undef, undef, undef, undef, undef, undef, undef, undef, undef].getD i undef) (fun L xs W => CpInv w8 g q.l (⟨frm, l⟩ : Pk) 1 6 11 12 15 16 [some (.pointer (some ⟨g, 0, none⟩)), none, some (.pointer (some ⟨g, 0, none⟩)), some (.pointer (some ⟨g, 0, none⟩)), some (.pointer (some ⟨g, 1, none⟩)), some (.slice va n cap), none, some (.int .i64 frm), some (.slice a9 m9 c9), some (.string tp), some (.agg #[.int .i64 frm, .string tp]), none, none, some (.pointer (some ⟨g, 0, none⟩)), some (.pointer (some ⟨g, 1, none⟩)), none] L xs W ∧ AllN 15 13 L) (by kernel_rfl) (by kernel_rfl) rfl rfl (fun L hL => ⟨CpInv.start hL (by decide) (by decide) (SameN.drawn _ _).below, fun h => by rw [hL 15 (by decide)] at h; cases h⟩) ?_ ?_
          · simp only [invOps, and_true]
            refine ⟨?_, ?_, ?_, ?_, ?_, ?_, ?_, ?_, ?_, ?_, ?_, ?_, ?_, ?_, ?_, ?_⟩
            · intro L xs W ⟨hI, hA⟩ hL hn
              simp only [flowAct, List.zipWith_cons_cons, List.zipWith_nil_left]
              go_wp2_with (fail)
              exact ⟨rfl, _, rfl, hI.pure 0 (by decide) (fun x hx => by first | (injection hx with hx) | cases hx), hA.step 0 (by decide)⟩
            · intro L xs W ⟨hI, hA⟩ hL hn
              simp only [flowAct, List.zipWith_cons_cons, List.zipWith_nil_left]
              go_wp2_with (fail)
              exact ⟨rfl, _, rfl, hI.stepE (by decide) hL (fun x hx => by first | (injection hx with hx) | cases hx) rfl, hA.step 1 (by decide)⟩
            · intro L xs W ⟨hI, hA⟩ hL hn
              simp only [flowAct, List.zipWith_cons_cons, List.zipWith_nil_left]
              go_wp2_with (fail)
              exact ⟨rfl, _, rfl, hI.pure 2 (by decide) (fun x hx => by first | (injection hx with hx) | cases hx), hA.step 2 (by decide)⟩
            · intro L xs W ⟨hI, hA⟩ hL hn
              simp [invNeeds, Region.binds] at hn
              have e2 : xs 2 = .pointer (some ⟨g, 0, none⟩) := hI.val 2 (by decide) (by simp only [hn]) _ rfl
              simp only [flowAct, List.zipWith_cons_cons, List.zipWith_nil_left]
              simp only [e2]
              go_wp2_with (fail)
              exact ⟨rfl, _, rfl, hI.pure 3 (by decide) (fun x hx => by first | (injection hx with hx) | cases hx), hA.step 3 (by decide)⟩
            · intro L xs W ⟨hI, hA⟩ hL hn
              simp [invNeeds, Region.binds] at hn
              have e3 : xs 3 = .pointer (some ⟨g, 0, none⟩) := hI.val 3 (by decide) (by simp only [hn]) _ rfl
              simp only [flowAct, List.zipWith_cons_cons, List.zipWith_nil_left]
              simp only [e3]
              go_wp2_with (fail)
              exact ⟨rfl, _, rfl, hI.pure 4 (by decide) (fun x hx => by first | (injection hx with hx) | cases hx), hA.step 4 (by decide)⟩
            · intro L xs W ⟨hI, hA⟩ hL hn
              simp [invNeeds, Region.binds] at hn
              have e4 : xs 4 = .pointer (some ⟨g, 1, none⟩) := hI.val 4 (by decide) (by simp only [hn]) _ rfl
              have z1 := (HC.out W (hI.below (hA.no (i := 5) (by decide) hL))).1
              simp only [flowAct, List.zipWith_cons_cons, List.zipWith_nil_left]
              simp only [e4]
              go_wp2_with (fail)
              exact ⟨rfl, _, rfl, hI.pure 5 (by decide) (fun x hx => by first | (injection hx with hx) | cases hx), hA.step 5 (by decide)⟩
            · intro L xs W ⟨hI, hA⟩ hL hn
              simp [invNeeds, Region.binds] at hn
              have e5 : xs 5 = .slice va n cap := hI.val 5 (by decide) (by simp only [hn]) _ rfl
              have hLe : L 1 = true := by simp only [hn]
              obtain ⟨g1, ee, oe, ce⟩ := hI.emp hLe hL
              have HB := Lib.hid (hI.below (hI.nos (hI.noc (.inl hL))))
              have HOE := Lib.hid (And.intro oe ce)
              clear oe ce
              simp only [flowAct, List.zipWith_cons_cons, List.zipWith_nil_left]
              simp only [e5, ee]
              go_wp2_with (refine wpList_append_cp (w8 := w8) (x := (⟨frm, l⟩ : Pk)) rfl _ _ rfl (g := g) (v := .slice va n cap) (q := q) rfl HOE.out.1 HOE.out.2 rfl (HN8.out.below HB.out) H64.out HB.out ?_; intro v9 w9 ho9 hb9 hk9)
              exact ⟨rfl, _, rfl, hI.stepA (by decide) hL hLe (fun x hx => by first | (injection hx with hx) | cases hx) hb9 ho9 hk9, hA.step 6 (by decide)⟩
            · intro L xs W ⟨hI, hA⟩ hL hn
              simp only [flowAct, List.zipWith_cons_cons, List.zipWith_nil_left]
              go_wp2_with (fail)
              exact ⟨rfl, _, rfl, hI.pure 7 (by decide) (fun x hx => by first | (injection hx with hx) | cases hx), hA.step 7 (by decide)⟩
            · intro L xs W ⟨hI, hA⟩ hL hn
              simp only [flowAct, List.zipWith_cons_cons, List.zipWith_nil_left]
              go_wp2_with (fail)
              exact ⟨rfl, _, rfl, hI.pure 8 (by decide) (fun x hx => by first | (injection hx with hx) | cases hx), hA.step 8 (by decide)⟩
            · intro L xs W ⟨hI, hA⟩ hL hn
              simp [invNeeds, Region.binds] at hn
              have e8 : xs 8 = .slice a9 m9 c9 := hI.val 8 (by decide) (by simp only [hn]) _ rfl
              have cv := HCV.out W (hI.below (hA.no (i := 9) (by decide) hL))
              simp only [flowAct, List.zipWith_cons_cons, List.zipWith_nil_left]
              simp only [e8]
              go_wp2_with (fail)
              exact ⟨rfl, _, rfl, hI.pure 9 (by decide) (fun x hx => by first | (injection hx with hx) | cases hx), hA.step 9 (by decide)⟩
            · intro L xs W ⟨hI, hA⟩ hL hn
              simp [invNeeds, Region.binds] at hn
              have e7 : xs 7 = .int .i64 frm := hI.val 7 (by decide) (by simp only [hn]) _ rfl
              have e9 : xs 9 = .string tp := hI.val 9 (by decide) (by simp only [hn]) _ rfl
              simp only [flowAct, List.zipWith_cons_cons, List.zipWith_nil_left]
              simp only [e7, e9]
              go_wp2_with (fail)
              exact ⟨rfl, _, rfl, hI.pure 10 (by decide) (fun x hx => by first | (injection hx with hx) | cases hx), hA.step 10 (by decide)⟩
            · intro L xs W ⟨hI, hA⟩ hL hn
              simp [invNeeds, Region.binds] at hn
              have e10 : xs 10 = .agg #[.int .i64 frm, .string tp] := hI.val 10 (by decide) (by simp only [hn]) _ rfl
              simp only [flowAct, List.zipWith_cons_cons, List.zipWith_nil_left]
              simp only [e10]
              go_wp2_with (fail)
              exact ⟨rfl, _, rfl, hI.stepB (by decide) hL (fun x hx => by first | (injection hx with hx) | cases hx) rfl HXA.out, hA.step 11 (by decide)⟩
            · intro L xs W ⟨hI, hA⟩ hL hn
              simp [invNeeds, Region.binds] at hn
              have hLa : L 6 = true := by simp only [hn]
              have hLb : L 11 = true := by simp only [hn]
              obtain ⟨b9, eb, pb⟩ := hI.box hLb hL
              have HB := Lib.hid (hI.below (hI.nos hL))
              have HOA := Lib.hid (hI.one hLa hL)
              have HPB := Lib.hid pb
              clear pb
              simp only [flowAct, List.zipWith_cons_cons, List.zipWith_nil_left]
              simp only [eb]
              go_wp2_with (refine wpList_append_pk rfl _ _ rfl rfl HOA.out (⟨frm, l⟩ : Pk) rfl HPB.out (by have := H64.out; omega) HB.out.size ?_; intro v9 w9 ho9 hg9 ha9)
              exact ⟨rfl, _, rfl, hI.stepC (by decide) hL hLa hLb (fun x hx => by first | (injection hx with hx) | cases hx) (HB.out.grown hg9 HB.out.size (fun k hk => (HOA.out.lt k hk).1)) ho9, hA.step 12 (by decide)⟩
            · intro L xs W ⟨hI, hA⟩ hL hn
              simp [invNeeds, Region.binds] at hn
              have e0 : xs 0 = .pointer (some ⟨g, 0, none⟩) := hI.val 0 (by decide) (by simp only [hn]) _ rfl
              simp only [flowAct, List.zipWith_cons_cons, List.zipWith_nil_left]
              simp only [e0]
              go_wp2_with (fail)
              exact ⟨rfl, _, rfl, hI.pure 13 (by decide) (fun x hx => by first | (injection hx with hx) | cases hx), hA.step 13 (by decide)⟩
            · intro L xs W ⟨hI, hA⟩ hL hn
              simp [invNeeds, Region.binds] at hn
              have e13 : xs 13 = .pointer (some ⟨g, 0, none⟩) := hI.val 13 (by decide) (by simp only [hn]) _ rfl
              simp only [flowAct, List.zipWith_cons_cons, List.zipWith_nil_left]
              simp only [e13]
              go_wp2_with (fail)
              exact ⟨rfl, _, rfl, hI.pure 14 (by decide) (fun x hx => by first | (injection hx with hx) | cases hx), hA.step 14 (by decide)⟩
            · intro L xs W ⟨hI, hA⟩ hL hn
              simp [invNeeds, Region.binds] at hn
              have e14 : xs 14 = .pointer (some ⟨g, 1, none⟩) := hI.val 14 (by decide) (by simp only [hn]) _ rfl
              have hLc : L 12 = true := by simp only [hn]
              have h2c := hI.two hLc hL
              have hb8 := hI.below hL
              obtain ⟨wa, wc, ec, -⟩ := OwnL.ls (z := Pk.zero) pk_size h2c
              obtain ⟨wm, hwm⟩ : ∃ z, (q.l ++ [(⟨frm, l⟩ : Pk)]).length = z := ⟨_, rfl⟩
              rw [hwm] at ec
              obtain ⟨z1, z2⟩ := HC.out W hb8
              clear h2c hb8 hwm
              simp only [flowAct, List.zipWith_cons_cons, List.zipWith_nil_left]
              simp only [e14, ec]
              go_wp2_with (fail)
              exact ⟨rfl, undef, rfl, hI.stepS (by decide) hL hLc (fun x hx => by first | (injection hx with hx) | cases hx) ec, AllN.last (by decide) (fun i hi => by rcases (by omega : i = 0 ∨ i = 1 ∨ i = 2 ∨ i = 3 ∨ i = 4 ∨ i = 5 ∨ i = 6 ∨ i = 7 ∨ i = 8 ∨ i = 9 ∨ i = 10 ∨ i = 11 ∨ i = 12) with rfl | rfl | rfl | rfl | rfl | rfl | rfl | rfl | rfl | rfl | rfl | rfl | rfl <;> simp only [hn])⟩
          · intro L xs W ⟨hI, hA⟩ hL
            obtain ⟨W3, v9, hb3, ho3, rfl⟩ := hI.fin (hL 15 (by decide))
            obtain ⟨hnw, htr, hft⟩ := HN8'.out.copied hb3 ho3 HB8.out
            have HNW := Lib.hid hnw
            have HTR := Lib.hid htr
            have HFT := Lib.hid hft
            clear hnw htr hft hb3 ho3 hI hL hA
            simp only [flowAct, List.zipWith_cons_cons, List.zipWith_nil_left]
            generalize W3.setCell ⟨g, 1, none⟩ v9 = W5 at *
            go_upto_region 8 with (fail)
            have hwr := wrap1 q.c0 HCB.out.1 HCB.out.2
            have HCC := Lib.hid (fun (W : World) (hW : SameN W5 W) => show W.cell? ⟨g, 2, none⟩ = some (.int .i64 q.c0) ∧ W.frozen? ⟨g, 2, none⟩ = false from by
              have hn := hW.nt HNW.out
              have := hn.cs
              exact ⟨by simp_all, hn.fz 2⟩)
            refine wp_region_inv [none, none, none, none, none, none, none, none, none, none, none, none, none, none, none, none, none, none, none, none, none, none, none, none, none, none, none, none, none, none, none, none, none, none, none, none, none, none, none, none, none, some 0, some 1, some 2, some 3, some 4, some 5, some 6, some 7, some 8, some 9] (fun i => [undef, undef, undef, undef, undef, undef, undef, undef, undef, undef, undef].getD i undef) (fun L xs W => InvQ [10] 11 (RvN [some (.pointer (some ⟨g, 0, none⟩)), some (.pointer (some ⟨g, 0, none⟩)), some (.pointer (some ⟨g, 0, none⟩)), some (.pointer (some ⟨g, 2, none⟩)), some (.pointer (some ⟨g, 2, none⟩)), some (.int .i64 q.c0), some (.int .i64 (q.c0 + 1)), some (.pointer (some ⟨g, 0, none⟩)), some (.pointer (some ⟨g, 2, none⟩)), some (.pointer (some ⟨g, 2, none⟩)), none]) (TurnR W5 g 2 (.int .i64 (q.c0 + 1))) L xs W ∧ ((L 10 = true → L 5 = true))) (by kernel_rfl) (by kernel_rfl) rfl rfl (fun L hL => ⟨InvQ.start hL (by decide) (by decide) (SameN.drawn _ _), (fun h => by rw [hL 10 (by decide)] at h; cases h)⟩) ?_ ?_
            · simp only [invOps, and_true]
              refine ⟨?_, ?_, ?_, ?_, ?_, ?_, ?_, ?_, ?_, ?_, ?_⟩
              · intro L xs W ⟨hI, hE⟩ hL hn
                have hE0 := hE
                simp only [flowAct, List.zipWith_cons_cons, List.zipWith_nil_left]
                go_wp2_with (fail)
                exact ⟨rfl, _, rfl, hI.pure 0 (by decide) (fun _ h => h) (fun x hx => by first | (injection hx with hx) | cases hx), hE0⟩
              · intro L xs W ⟨hI, hE⟩ hL hn
                have hE0 := hE
                simp only [flowAct, List.zipWith_cons_cons, List.zipWith_nil_left]
                go_wp2_with (fail)
                exact ⟨rfl, _, rfl, hI.pure 1 (by decide) (fun _ h => h) (fun x hx => by first | (injection hx with hx) | cases hx), hE0⟩
              · intro L xs W ⟨hI, hE⟩ hL hn
                simp [invNeeds, Region.binds] at hn
                have e1 : xs 1 = .pointer (some ⟨g, 0, none⟩) := hI.val 1 (by decide) (by simp only [hn]) _ rfl
                have hE0 := hE
                simp only [flowAct, List.zipWith_cons_cons, List.zipWith_nil_left]
                simp only [e1]
                go_wp2_with (fail)
                exact ⟨rfl, _, rfl, hI.pure 2 (by decide) (fun _ h => h) (fun x hx => by first | (injection hx with hx) | cases hx), hE0⟩
              · intro L xs W ⟨hI, hE⟩ hL hn
                simp [invNeeds, Region.binds] at hn
                have e2 : xs 2 = .pointer (some ⟨g, 0, none⟩) := hI.val 2 (by decide) (by simp only [hn]) _ rfl
                have hE0 := hE
                simp only [flowAct, List.zipWith_cons_cons, List.zipWith_nil_left]
                simp only [e2]
                go_wp2_with (fail)
                exact ⟨rfl, _, rfl, hI.pure 3 (by decide) (fun _ h => h) (fun x hx => by first | (injection hx with hx) | cases hx), hE0⟩
              · intro L xs W ⟨hI, hE⟩ hL hn
                simp [invNeeds, Region.binds] at hn
                have e3 : xs 3 = .pointer (some ⟨g, 2, none⟩) := hI.val 3 (by decide) (by simp only [hn]) _ rfl
                have hE0 := hE
                simp only [flowAct, List.zipWith_cons_cons, List.zipWith_nil_left]
                simp only [e3]
                go_wp2_with (fail)
                exact ⟨rfl, _, rfl, hI.pure 4 (by decide) (fun _ h => h) (fun x hx => by first | (injection hx with hx) | cases hx), hE0⟩
              · intro L xs W ⟨hI, hE⟩ hL hn
                simp [invNeeds, Region.binds] at hn
                have e4 : xs 4 = .pointer (some ⟨g, 2, none⟩) := hI.val 4 (by decide) (by simp only [hn]) _ rfl
                have hE0 := hE
                have Lb0 : L 10 = false := by
                  cases h : L 10 with
                  | false => rfl
                  | true => have := hE0 h; rw [hL] at this; cases this
                obtain ⟨k9, hk9, hr9⟩ := hI.upto (j := 0) rfl Lb0
                obtain rfl : k9 = 0 := by omega
                have z1 := (HCC.out W hr9).1
                clear hr9
                simp only [flowAct, List.zipWith_cons_cons, List.zipWith_nil_left]
                simp only [e4]
                go_wp2_with (fail)
                exact ⟨rfl, _, rfl, hI.pure 5 (by decide) (fun _ h => h) (fun x hx => by first | (injection hx with hx) | cases hx), (fun _ => by simp)⟩
              · intro L xs W ⟨hI, hE⟩ hL hn
                simp [invNeeds, Region.binds] at hn
                have e5 : xs 5 = .int .i64 q.c0 := hI.val 5 (by decide) (by simp only [hn]) _ rfl
                have hE0 := hE
                simp only [flowAct, List.zipWith_cons_cons, List.zipWith_nil_left]
                simp only [e5]
                go_wp2_with (fail)
                exact ⟨rfl, _, rfl, hI.pure 6 (by decide) (fun _ h => h) (fun x hx => by first | (injection hx with hx) | cases hx), hE0⟩
              · intro L xs W ⟨hI, hE⟩ hL hn
                simp [invNeeds, Region.binds] at hn
                have e0 : xs 0 = .pointer (some ⟨g, 0, none⟩) := hI.val 0 (by decide) (by simp only [hn]) _ rfl
                have hE0 := hE
                simp only [flowAct, List.zipWith_cons_cons, List.zipWith_nil_left]
                simp only [e0]
                go_wp2_with (fail)
                exact ⟨rfl, _, rfl, hI.pure 7 (by decide) (fun _ h => h) (fun x hx => by first | (injection hx with hx) | cases hx), hE0⟩
              · intro L xs W ⟨hI, hE⟩ hL hn
                simp [invNeeds, Region.binds] at hn
                have e7 : xs 7 = .pointer (some ⟨g, 0, none⟩) := hI.val 7 (by decide) (by simp only [hn]) _ rfl
                have hE0 := hE
                simp only [flowAct, List.zipWith_cons_cons, List.zipWith_nil_left]
                simp only [e7]
                go_wp2_with (fail)
                exact ⟨rfl, _, rfl, hI.pure 8 (by decide) (fun _ h => h) (fun x hx => by first | (injection hx with hx) | cases hx), hE0⟩
              · intro L xs W ⟨hI, hE⟩ hL hn
                simp [invNeeds, Region.binds] at hn
                have e8 : xs 8 = .pointer (some ⟨g, 2, none⟩) := hI.val 8 (by decide) (by simp only [hn]) _ rfl
                have hE0 := hE
                simp only [flowAct, List.zipWith_cons_cons, List.zipWith_nil_left]
                simp only [e8]
                go_wp2_with (fail)
                exact ⟨rfl, _, rfl, hI.pure 9 (by decide) (fun _ h => h) (fun x hx => by first | (injection hx with hx) | cases hx), hE0⟩
              · intro L xs W ⟨hI, hE⟩ hL hn
                simp [invNeeds, Region.binds] at hn
                have e9 : xs 9 = .pointer (some ⟨g, 2, none⟩) := hI.val 9 (by decide) (by simp only [hn]) _ rfl
                have e6 : xs 6 = .int .i64 (q.c0 + 1) := hI.val 6 (by decide) (by simp only [hn]) _ rfl
                have hr := hI.at 0 rfl hL (fun p hp => absurd hp.1 (by omega))
                have hE0 := hE
                have Li0 : L 5 = true := by simp only [hn]
                have HR := Lib.hid hr
                obtain ⟨z1, z2⟩ := HCC.out W hr
                clear hr
                simp only [flowAct, List.zipWith_cons_cons, List.zipWith_nil_left]
                simp only [e9, e6]
                go_wp2_with (fail)
                exact ⟨rfl, undef, rfl, hI.step 0 rfl hL (fun p hp => absurd hp.1 (by omega)) (by decide) (⟨W, HR.out, rfl⟩) (fun x hx => by first | (injection hx with hx) | cases hx), (fun _ => by simpa using Li0)⟩
            · intro L xs W ⟨hI, hE⟩ hL
              have hdone := (hI.done hL (by decide) (by decide)).1
              obtain ⟨W6, hs6, rfl⟩ : ∃ W6, SameN W5 W6 ∧ W = W6.setCell ⟨g, 2, none⟩ (.int .i64 (q.c0 + 1)) := hdone
              have HS6 := Lib.hid hs6
              have HNW9 := Lib.hid (hs6.nt HNW.out)
              clear hs6 hI hE hL
              simp only [flowAct, List.zipWith_cons_cons, List.zipWith_nil_left]
              go_wp2
              go_ret
              refine ⟨rfl, _, ⟨v9, HNW9.out.bump0 (q.c0 + 1), rfl⟩, ?_, HFT.out⟩
              exact (HTR.out.then (TrN.of HS6.out.below)).set (.inl (.inl rfl))
end Go.Proofs.Ytngfohedddcboaa
