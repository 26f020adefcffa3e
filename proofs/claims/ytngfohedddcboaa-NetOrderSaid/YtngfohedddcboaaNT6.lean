/-
  Net: Send, Take, Drop, Twice, Len of the program.
-/
import Derived.Test.YtngfohedddcboaaNT5
namespace Go.Proofs.Ytngfohedddcboaa
open Go.RowKit Go Go.Sort Go.Lib Go.Maps
set_option linter.unusedVariables false
set_option maxRecDepth 20000

/-- A call's net, seen from ahead of a cell that was laid for it. -/
theorem nres {w W1 w2 w3 : World} {ty : TypeId} {g B : Nat} {q' : Nt} {F : Nat → Prop} (hb : Below w.heap.size w W1) (hF : ∀ k, F k → k < w.heap.size) (h : ∃ F', Nk w2 ty g q' F' ∧ TrN F W1 w2 ∧ ∀ k, F' k → F k ∨ W1.heap.size ≤ k) (h3 : TrN (fun k => k = B) w2 w3) (h0 : w.heap.size ≤ B) (h1 : B < W1.heap.size) : ∃ F', Nk w3 ty g q' F' ∧ TrN F w w3 ∧ ∀ k, F' k → F k ∨ w.heap.size ≤ k := by
  obtain ⟨F', hn, ht, hf⟩ := h
  refine ⟨F', hn.keep (fun k hk => h3.block k (hn.lt hk) (fun e => ?_)), (((TrN.of hb).then ht).trans h3 (fun k hk => .inr (by subst hk; exact h0))), fun k hk => (hf k hk).imp id (fun h => Nat.le_trans hb.size h)⟩
  subst e
  rcases hf k hk with h | h
  · have := hF k h; omega
  · omega
/-- .. of which nothing but new memory came behind it. -/
theorem nres_below {w W1 w2 w3 : World} {ty : TypeId} {g : Nat} {q' : Nt} {F : Nat → Prop} (hb : Below w.heap.size w W1) (h : ∃ F', Nk w2 ty g q' F' ∧ TrN F W1 w2 ∧ ∀ k, F' k → F k ∨ W1.heap.size ≤ k) (h3 : Below w2.heap.size w2 w3) : ∃ F', Nk w3 ty g q' F' ∧ TrN F w w3 ∧ ∀ k, F' k → F k ∨ w.heap.size ≤ k := by
  obtain ⟨F', hn, ht, hf⟩ := h
  exact ⟨F', hn.below h3, ((TrN.of hb).then ht).then (TrN.of h3), fun k hk => (hf k hk).imp id (fun h => Nat.le_trans hb.size h)⟩
set_option maxHeartbeats 1600000 in
theorem nsend_c {w : World} {g nn : Nat} {q : Nt} {F : Nat → Prop} (hk : Nk w 56 g q F) (ho : q.Ok nn) (hnn : nn ≤ 100000) (frm : Int) {a : Option Addr} {n cap : Nat} {l : List UInt8} (hb : Bys w a n cap l) : Calls Try.prog 16 #[.pointer (some ⟨g, 0, none⟩), .int .i64 frm, .slice a n cap] w (NPost 56 g F (.int .i64 (q.send frm l).1) (q.send frm l).2 w) := by
  have HMD := Lib.hid (show w.cell? ⟨g, 0, none⟩ = some (.int .i64 q.most) ∧ 1 ≤ q.most from by obtain ⟨v, h, -⟩ := hk; exact ⟨h.cs.1, ho.m0⟩)
  have HK := Lib.hid hk
  have HAD := Lib.hid (nadd0_c hk ho hnn ⟨frm, l⟩)
  have hln := hb.len
  have hcv : (convert 29 9 (.slice a n cap)).run Try.prog w = .ok (.string (text l)) w := conv_bys hb Try.underlying29 Try.underlying5 Try.underlying9
  unfold Nt.send
  have hpa : Pk.arr ⟨frm, l⟩ = #[.int .i64 frm, .string (text l)] := rfl
  rw [hpa] at HAD
  clear hk ho hb hpa
  by_cases hf : ¬ (frm = 1 ∨ frm = 2)
  · rw [if_pos hf]
    have h1 : (frm != 1) = true := by simp; omega
    have h2 : (frm != 2) = true := by simp; omega
    clear hf hcv
    go_enter Try.func16, Try.ntmps16
    go_wp2_with (go_at_call 29; (with_reducible refine (nmade_c HMD.out.1 HMD.out.2).mono ?_); rintro e1 w1 ⟨rfl, rfl⟩)
    go_ret
    exact nk_same HK.out _
  · rw [if_neg hf]
    by_cases hl : 1048592 < l.length
    · rw [if_pos hl]
      have hl2 : (1048592 : Int) < (n : Int) := by omega
      rcases (by omega : frm = 1 ∨ frm = 2) with rfl | rfl
      · have h1 : ((1 : Int) != 1) = false := rfl
        clear hcv hf
        go_enter Try.func16, Try.ntmps16
        go_wp2_with (go_at_call 29; (with_reducible refine (nmade_c HMD.out.1 HMD.out.2).mono ?_); rintro e1 w1 ⟨rfl, rfl⟩)
        go_ret
        exact nk_same HK.out _
      · have h1 : ((2 : Int) != 1) = true := rfl
        have h2 : ((2 : Int) != 2) = false := rfl
        clear hcv hf
        go_enter Try.func16, Try.ntmps16
        go_wp2_with (go_at_call 29; (with_reducible refine (nmade_c HMD.out.1 HMD.out.2).mono ?_); rintro e1 w1 ⟨rfl, rfl⟩)
        go_ret
        exact nk_same HK.out _
    · rw [if_neg hl]
      have hl2 : ¬ (1048592 : Int) < (n : Int) := by omega
      have hadd : (if q.most ≤ (q.l.length : Int) then (210, q) else (0, { q with l := q.l ++ [⟨frm, l⟩], c0 := q.c0 + 1 })) = q.add0 ⟨frm, l⟩ := rfl
      rw [hadd]
      obtain ⟨E, hE⟩ : ∃ z, (q.add0 ⟨frm, l⟩).1 = z := ⟨_, rfl⟩
      obtain ⟨q', hq⟩ : ∃ z, (q.add0 ⟨frm, l⟩).2 = z := ⟨_, rfl⟩
      rw [hE, hq] at HAD ⊢
      obtain ⟨tp, htp⟩ : ∃ z, text l = z := ⟨_, rfl⟩
      rw [htp] at hcv HAD
      clear hE hq htp hadd hl
      rcases (by omega : frm = 1 ∨ frm = 2) with rfl | rfl
      · have h1 : ((1 : Int) != 1) = false := rfl
        clear hf
        go_enter Try.func16, Try.ntmps16
        go_wp2_with (first | (go_at_call 29; (with_reducible refine (nmade_c HMD.out.1 HMD.out.2).mono ?_); rintro e1 w1 ⟨rfl, rfl⟩) | (go_at_call 31; (with_reducible refine HAD.out.mono ?_); rintro e2 w2 ⟨rfl, hp2⟩))
        go_ret
        exact ⟨rfl, hp2⟩
      · have h1 : ((2 : Int) != 1) = true := rfl
        have h2 : ((2 : Int) != 2) = false := rfl
        clear hf
        go_enter Try.func16, Try.ntmps16
        go_wp2_with (first | (go_at_call 29; (with_reducible refine (nmade_c HMD.out.1 HMD.out.2).mono ?_); rintro e1 w1 ⟨rfl, rfl⟩) | (go_at_call 31; (with_reducible refine HAD.out.mono ?_); rintro e2 w2 ⟨rfl, hp2⟩))
        go_ret
        exact ⟨rfl, hp2⟩
set_option maxHeartbeats 1600000 in
theorem ntake_c {w : World} {g nn : Nat} {q : Nt} {F : Nat → Prop} (hk : Nk w 56 g q F) (ho : q.Ok nn) (hnn : nn ≤ 100000) (i : Int) : Calls Try.prog 17 #[.pointer (some ⟨g, 0, none⟩), .int .i64 i] w (NPost 56 g F (.tuple #[.agg (q.look i).1.arr, .int .i64 (q.look i).2]) (q.took i) w) := by
  have HB := Lib.hid (alloc_below w (.cells #[.int .i64 0, .string ⟨#[]⟩] 43))
  have HP := Lib.hid (show PkB (w.alloc (.cells #[.int .i64 0, .string ⟨#[]⟩] 43)) w.heap.size Pk.zero from heap_alloc_new w _)
  have HLK := Lib.hid (nrem1_c (hk.below HB.out) ho hnn i)
  have HFL := Lib.hid (fun k (hf : F k) => hk.lt hf)
  obtain ⟨B, hB⟩ : ∃ z, w.heap.size = z := ⟨_, rfl⟩
  have HSB := Lib.hid hB
  rw [hB] at HP
  obtain ⟨p9, hp9⟩ : ∃ z, (q.look i).1 = z := ⟨_, rfl⟩
  obtain ⟨E, hE⟩ : ∃ z, (q.look i).2 = z := ⟨_, rfl⟩
  rw [hp9, hE] at HLK ⊢
  obtain ⟨pf, hpf⟩ : ∃ z, p9.frm = z := ⟨_, rfl⟩
  obtain ⟨tp, htp⟩ : ∃ z, text p9.s = z := ⟨_, rfl⟩
  have HPA := Lib.hid (show p9.arr = #[.int .i64 pf, .string tp] from by simp only [Pk.arr, hpf, htp])
  have HTX := Lib.hid (show (Value.int .i64 p9.frm = .int .i64 pf) ∧ (Value.string (text p9.s) = .string tp) from by rw [← hpf, ← htp]; exact ⟨rfl, rfl⟩)
  rw [HPA.out] at HLK ⊢
  have HNG := Lib.hid (show ∀ k, F k → k ≠ B from fun k hf e => by have := HFL.out k hf; omega)
  clear hk ho hp9 hE hpf htp
  go_enter Try.func17, Try.ntmps17
  go_upto_region 1 with (fail)
  try rw [hB]
  clear hB
  have HLT := HP.out.lt
  generalize w.alloc (.cells #[.int .i64 0, .string ⟨#[]⟩] 43) = W1 at *
  go_wp2_with (go_at_call 32; (with_reducible refine HLK.out.mono ?_); rintro e1 w2 ⟨rfl, hp2⟩; have HP2 := Lib.hid hp2; have HB0 := Lib.hid (show PkB w2 B Pk.zero from by obtain ⟨F', -, ht, -⟩ := hp2; exact ht.heap HP.out (fun hf => HNG.out _ hf rfl)); clear hp2; have z0 := HB0.out.c0; have z1 := HB0.out.c1; have f0 := HB0.out.fz 0; have f1 := HB0.out.fz 1; simp only [Pk.zero] at z0 z1)
  refine bodyPost_ret (res_cell_tmp rfl _ _ B 43 _ (0, 0) _ _ rfl rfl (by have := HB0.out.set p9; simp only [HTX.out.1, HTX.out.2] at this; exact this) Try.underlying43 rfl (by have := sizePk p9; rwa [HPA.out] at this)) rfl ⟨by rw [HPA.out]; rfl, ?_⟩
  exact nres HB.out HFL.out HP2.out (((TrN.refl (F := fun k => k = B)).set (p := ⟨B, 0, none⟩) (.inl rfl)).set (p := ⟨B, 1, none⟩) (.inl rfl)) (Nat.le_of_eq HSB.out) HLT
set_option maxHeartbeats 1600000 in
theorem ndrop_c {w : World} {g nn : Nat} {q : Nt} {F : Nat → Prop} (hk : Nk w 56 g q F) (ho : q.Ok nn) (hnn : nn ≤ 100000) (i : Int) : Calls Try.prog 21 #[.pointer (some ⟨g, 0, none⟩), .int .i64 i] w (NPost 56 g F (.int .i64 (q.look i).2) (q.drop i) w) := by
  have HLK := Lib.hid (nrem2_c hk ho hnn i)
  obtain ⟨p9, hp9⟩ : ∃ z, (q.look i).1 = z := ⟨_, rfl⟩
  obtain ⟨E, hE⟩ : ∃ z, (q.look i).2 = z := ⟨_, rfl⟩
  rw [hp9, hE] at HLK
  rw [hE]
  have HPA : p9.arr = #[.int .i64 p9.frm, .string (text p9.s)] := rfl
  rw [HPA] at HLK
  clear hk ho hp9 hE HPA
  go_enter Try.func21, Try.ntmps21
  go_wp2_with (go_at_call 32; (with_reducible refine HLK.out.mono ?_); rintro e1 w2 ⟨rfl, hp2⟩; have HP2 := Lib.hid hp2; clear hp2)
  go_ret
  exact ⟨rfl, nres_below (Below.refl _ _) HP2.out (alloc_below _ _)⟩
set_option maxHeartbeats 1600000 in
theorem ntwice_c {w : World} {g nn : Nat} {q : Nt} {F : Nat → Prop} (hk : Nk w 56 g q F) (ho : q.Ok nn) (hnn : nn ≤ 100000) (i : Int) : Calls Try.prog 18 #[.pointer (some ⟨g, 0, none⟩), .int .i64 i] w (NPost 56 g F (.int .i64 (q.twice i).1) (q.twice i).2 w) := by
  have HLK := Lib.hid (nlook_c hk ho.m0 i)
  have HK := Lib.hid hk
  unfold LkPost at HLK
  by_cases hi : q.has i
  · have he : q.look i = (q.get i, 0) := by unfold Nt.look; rw [if_pos hi]
    have he2 : q.twice i = q.add3 (q.get i) := by unfold Nt.twice Nt.add3; rw [if_neg (not_not_intro hi)]
    rw [he] at HLK
    rw [he2]
    obtain ⟨p9, hp9⟩ : ∃ z, q.get i = z := ⟨_, rfl⟩
    rw [hp9] at HLK ⊢
    have HAD := Lib.hid (fun (W : World) (hW : Below w.heap.size w W) => nadd3_c (hk.below hW) ho hnn p9)
    obtain ⟨E, hE⟩ : ∃ z, (q.add3 p9).1 = z := ⟨_, rfl⟩
    obtain ⟨q', hq⟩ : ∃ z, (q.add3 p9).2 = z := ⟨_, rfl⟩
    rw [hE, hq] at HAD ⊢
    obtain ⟨pf, hpf⟩ : ∃ z, p9.frm = z := ⟨_, rfl⟩
    obtain ⟨tp, htp⟩ : ∃ z, text p9.s = z := ⟨_, rfl⟩
    have HPA := Lib.hid (show p9.arr = #[.int .i64 pf, .string tp] from by simp only [Pk.arr, hpf, htp])
    have HTX := Lib.hid (show (Value.int .i64 p9.frm = .int .i64 pf) ∧ (Value.string (text p9.s) = .string tp) from by rw [← hpf, ← htp]; exact ⟨rfl, rfl⟩)
    simp only [HPA.out] at HLK HAD
    clear hk ho hi he he2 hp9 hE hq hpf htp
    go_enter Try.func18, Try.ntmps18
    go_upto_region 2 with (go_at_call 20; (with_reducible refine HLK.out.mono ?_); rintro e1 w1 ⟨rfl, hb1⟩; have HB1 := Lib.hid hb1; clear hb1)
    have HB2 := Lib.hid (HB1.out.trans ((alloc_below w1 (.cells #[.int .i64 pf, .string tp] 43)).mono HB1.out.size))
    have hp1 : PkB (w1.alloc (.cells #[.int .i64 pf, .string tp] 43)) w1.heap.size p9 := by unfold PkB; rw [HPA.out]; exact heap_alloc_new w1 _
    obtain ⟨B, hB⟩ : ∃ z, w1.heap.size = z := ⟨_, rfl⟩
    rw [hB] at hp1 ⊢
    have l0 := hp1.c0
    have l1 := hp1.c1
    rw [HTX.out.1] at l0
    rw [HTX.out.2] at l1
    clear hp1 hB
    generalize w1.alloc (.cells #[.int .i64 pf, .string tp] 43) = w2 at *
    go_wp2_with (go_at_call 31; (with_reducible refine (HAD.out w2 HB2.out).mono ?_); rintro e2 w3 ⟨rfl, hp3⟩; have HP3 := Lib.hid hp3; clear hp3)
    go_ret
    exact ⟨rfl, nres_below HB2.out HP3.out (Below.refl _ _)⟩
  · have he : q.look i = (Pk.zero, 211) := by unfold Nt.look; rw [if_neg hi]
    have he2 : q.twice i = (211, q) := by unfold Nt.twice; rw [if_pos hi]
    rw [he] at HLK
    rw [he2]
    have hza : Pk.arr Pk.zero = #[.int .i64 0, .string ⟨#[]⟩] := rfl
    simp only [hza] at HLK
    clear hk ho hi he he2 hza
    go_enter Try.func18, Try.ntmps18
    go_wp2_with (go_at_call 20; (with_reducible refine HLK.out.mono ?_); rintro e1 w1 ⟨rfl, hb1⟩; have HB1 := Lib.hid hb1; clear hb1)
    go_ret
    have hb2 := HB1.out.trans ((alloc_below w1 (.cells #[.int .i64 0, .string ⟨#[]⟩] 43)).mono HB1.out.size)
    exact ⟨rfl, F, HK.out.below hb2, TrN.of hb2, fun k hf => .inl hf⟩
theorem nlen_c {w : World} {g : Nat} {q : Nt} {F : Nat → Prop} (hk : Nk w 56 g q F) (hm : 1 ≤ q.most) : Calls Try.prog 15 #[.pointer (some ⟨g, 0, none⟩)] w (fun e w' => e = .returned (.int .i64 (q.l.length : Int)) ∧ w = w') := by
  obtain ⟨v, h, -⟩ := hk
  have HMD := Lib.hid (And.intro h.cs.1 hm)
  obtain ⟨a, cap, hv, -⟩ := h.sl
  have y1 := h.cs.2.1
  rw [hv] at y1
  clear h hm hv
  go_enter Try.func15, Try.ntmps15
  go_wp2_with (go_at_call 29; (with_reducible refine (nmade_c HMD.out.1 HMD.out.2).mono ?_); rintro e1 w1 ⟨rfl, rfl⟩)
  go_ret
  exact ⟨rfl, rfl⟩
end Go.Proofs.Ytngfohedddcboaa
