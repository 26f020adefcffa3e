/-
  Net: same; the chapter's example.
-/
import Derived.Test.YtngfohedddcboaaNTE
import Derived.Lib.SlBytesConst
namespace Go.Proofs.Ytngfohedddcboaa
open Go.RowKit Go Go.Sort Go.Lib Go.Maps
set_option linter.unusedVariables false
set_option maxRecDepth 20000

theorem eqC4 (a b c d : Int) (w : World) : (Op.equalIn 10000 36 (.agg #[.int .i64 a, .int .i64 b, .int .i64 c, .int .i64 d]) (.agg #[.int .i64 a, .int .i64 b, .int .i64 c, .int .i64 d])).run Try.prog w = .ok true w := by
  have u3 := Try.underlying3
  have z3 : (Try.prog.info? 3).map (·.size) = some 1 := by kernel_rfl
  rw [show (10000 : Nat) = 9999 + 1 from rfl, Op.equalIn]
  simp only [Sem.run_bind, run_underlying Try.underlying36, Result.andThen_ok]
  simp only [Std.Legacy.Range.forIn_eq_forIn_range', Std.Legacy.Range.size, Nat.sub_zero, Nat.add_sub_cancel, Nat.div_one, List.range'_succ, List.range'_zero, List.forIn_cons, List.forIn_nil]
  go_simp
set_option maxRecDepth 100000 in
set_option maxHeartbeats 12800000 in
theorem nsame_c {w : World} {q r nn : Nat} {st : Nt} {F G : Nat → Prop} (hd : Nk w 56 q st F) (hr : Nk w 60 r st G) (ho : st.Ok nn) : Calls Try.prog 13 #[.pointer (some ⟨q, 0, none⟩), .pointer (some ⟨r, 0, none⟩)] w (Tells (.bool true) w) := by
  have HLE := Lib.hid (fun W (hW : Below w.heap.size w W) => nlen_c (hd.below hW) ho.m0)
  have HCO := Lib.hid (fun W (hW : Below w.heap.size w W) => ncounts_c (hd.below hW) ho.m0)
  have HLK := Lib.hid (fun W (hW : Below w.heap.size w W) (i : Int) => nlook_c (hd.below hW) ho.m0 i)
  obtain ⟨vb, hr, -⟩ := hr
  have HN := Lib.hid hr
  obtain ⟨rb, rc, hv, -⟩ := hr.sl
  obtain ⟨n, hn⟩ : ∃ z, st.l.length = z := ⟨_, rfl⟩
  have HV := Lib.hid (show vb = .slice rb n rc from by rw [hv, hn])
  have HLN := Lib.hid hn
  have HMX := Lib.hid (show n ≤ 64 from by have := ho.len; have := ho.m1; omega)
  have HCS := Lib.hid (fun W (hW : Below w.heap.size w W) => show W.cell? ⟨r, 1, none⟩ = some (.slice rb n rc) ∧ W.cell? ⟨r, 2, none⟩ = some (.int .i64 st.c0) ∧ W.cell? ⟨r, 3, none⟩ = some (.int .i64 st.c1) ∧ W.cell? ⟨r, 4, none⟩ = some (.int .i64 st.c2) ∧ W.cell? ⟨r, 5, none⟩ = some (.int .i64 st.c3) from by
    have := (hr.below hW).cs
    rw [hv, hn] at this
    exact this.2)
  rw [hn] at HLE
  unfold cntV at HCO
  obtain ⟨k0, hk0⟩ : ∃ z, st.c0 = z := ⟨_, rfl⟩
  obtain ⟨k1, hk1⟩ : ∃ z, st.c1 = z := ⟨_, rfl⟩
  obtain ⟨k2, hk2⟩ : ∃ z, st.c2 = z := ⟨_, rfl⟩
  obtain ⟨k3, hk3⟩ : ∃ z, st.c3 = z := ⟨_, rfl⟩
  rw [hk0, hk1, hk2, hk3] at HCS HCO
  clear hd hr ho hv hn hk0 hk1 hk2 hk3
  have hnn : ((n : Int) != (n : Int)) = false := by simp
  go_enter Try.func13, Try.ntmps13
  go_upto_region 1 with (fail)
  refine wp_region_flow [none, none, none, none, none, none, none, none, some 0, some 1, some 2, some 3, some 4, some 5, some 6, some 7, some 8, some 9, some 10, some 11, some 12, some 13, some 14, some 15, some 16, none, none, none, none, none, none, none, none, none, none, none, none, none, none, none, none, none, none, none, none, none, none, none, none, none, none, none, none] (fun i => [undef, undef, undef, undef, undef, undef, undef, undef, undef, undef, undef, undef, undef, undef, undef, undef, undef].getD i undef) [(fun v _ => v = .pointer (some ⟨q, 0, none⟩)), (fun v _ => v = .int .i64 (n : Int)), (fun v _ => v = .pointer (some ⟨r, 0, none⟩)), (fun v _ => v = .pointer (some ⟨r, 0, none⟩)), (fun v _ => v = .pointer (some ⟨r, 1, none⟩)), (fun v _ => v = .slice rb n rc), (fun v _ => v = .int .i64 (n : Int)), (fun v _ => v = .bool false), (fun v _ => v = .bool false), (fun v _ => v = .pointer (some ⟨q, 0, none⟩)), (fun v _ => v = .agg #[.int .i64 k0, .int .i64 k1, .int .i64 k2, .int .i64 k3]), (fun v _ => v = .pointer (some ⟨r, 0, none⟩)), (fun v _ => v = .pointer (some ⟨r, 0, none⟩)), (fun v _ => v = .pointer (some ⟨r, 2, none⟩)), (fun v _ => v = .agg #[.int .i64 k0, .int .i64 k1, .int .i64 k2, .int .i64 k3]), (fun v _ => v = .bool false), (fun v _ => v = .bool false)] (by kernel_rfl) (by kernel_rfl) rfl rfl rfl ?_ ?_ ?_
  · intro g hg v X Y hX hY hv
    simp only [List.mem_cons, List.not_mem_nil, or_false] at hg
    rcases hg with rfl | rfl | rfl | rfl | rfl | rfl | rfl | rfl | rfl | rfl | rfl | rfl | rfl | rfl | rfl | rfl | rfl
    all_goals first
      | exact hv
      | exact hv.kept hY
  · simp only [flowOps, and_true]
    refine ⟨?_, ?_, ?_, ?_, ?_, ?_, ?_, ?_, ?_, ?_, ?_, ?_, ?_, ?_, ?_, ?_, ?_⟩
    · intro xs W hW hn
      simp only [flowAct, List.zipWith_cons_cons, List.zipWith_nil_left]
      go_wp2_with (fail)
      exact ⟨rfl, _, rfl, Below.refl _ _, rfl⟩
    · intro xs W hW hn
      simp [flowNeeds, Region.binds] at hn
      simp only [flowAct, List.zipWith_cons_cons, List.zipWith_nil_left]
      try simp only [hn]
      go_wp2_with (go_at_call 15; (with_reducible refine (HLE.out _ hW).mono ?_); rintro e9 w9 ⟨rfl, rfl⟩)
      exact ⟨rfl, _, rfl, Below.refl _ _, rfl⟩
    · intro xs W hW hn
      simp only [flowAct, List.zipWith_cons_cons, List.zipWith_nil_left]
      go_wp2_with (fail)
      exact ⟨rfl, _, rfl, Below.refl _ _, rfl⟩
    · intro xs W hW hn
      simp [flowNeeds, Region.binds] at hn
      simp only [flowAct, List.zipWith_cons_cons, List.zipWith_nil_left]
      try simp only [hn]
      go_wp2_with (fail)
      exact ⟨rfl, _, rfl, Below.refl _ _, rfl⟩
    · intro xs W hW hn
      simp [flowNeeds, Region.binds] at hn
      simp only [flowAct, List.zipWith_cons_cons, List.zipWith_nil_left]
      try simp only [hn]
      go_wp2_with (fail)
      exact ⟨rfl, _, rfl, Below.refl _ _, rfl⟩
    · intro xs W hW hn
      simp [flowNeeds, Region.binds] at hn
      obtain ⟨c1, c2, c3, c4, c5⟩ := HCS.out W hW
      simp only [flowAct, List.zipWith_cons_cons, List.zipWith_nil_left]
      try simp only [hn]
      go_wp2_with (fail)
      exact ⟨rfl, _, rfl, Below.refl _ _, rfl⟩
    · intro xs W hW hn
      simp [flowNeeds, Region.binds] at hn
      simp only [flowAct, List.zipWith_cons_cons, List.zipWith_nil_left]
      try simp only [hn]
      go_wp2_with (fail)
      exact ⟨rfl, _, rfl, Below.refl _ _, rfl⟩
    · intro xs W hW hn
      simp [flowNeeds, Region.binds] at hn
      simp only [flowAct, List.zipWith_cons_cons, List.zipWith_nil_left]
      try simp only [hn]
      go_wp2_with (fail)
      exact ⟨rfl, _, rfl, Below.refl _ _, rfl⟩
    · intro xs W hW hn
      simp [flowNeeds, Region.binds] at hn
      simp only [flowAct, List.zipWith_cons_cons, List.zipWith_nil_left]
      try simp only [hn]
      go_wp2_with (fail)
      exact ⟨rfl, _, rfl, Below.refl _ _, rfl⟩
    · intro xs W hW hn
      simp [flowNeeds, Region.binds] at hn
      simp only [flowAct, List.zipWith_cons_cons, List.zipWith_nil_left]
      try simp only [hn]
      go_wp2_with (fail)
      exact ⟨rfl, _, rfl, Below.refl _ _, rfl⟩
    · intro xs W hW hn
      simp [flowNeeds, Region.binds] at hn
      simp only [flowAct, List.zipWith_cons_cons, List.zipWith_nil_left]
      try simp only [hn]
      go_wp2_with (go_at_call 14; (with_reducible refine (HCO.out _ hW).mono ?_); rintro e9 w9 ⟨rfl, hb9⟩)
      exact ⟨rfl, _, rfl, hb9, rfl⟩
    · intro xs W hW hn
      simp [flowNeeds, Region.binds] at hn
      simp only [flowAct, List.zipWith_cons_cons, List.zipWith_nil_left]
      try simp only [hn]
      go_wp2_with (fail)
      exact ⟨rfl, _, rfl, Below.refl _ _, rfl⟩
    · intro xs W hW hn
      simp [flowNeeds, Region.binds] at hn
      simp only [flowAct, List.zipWith_cons_cons, List.zipWith_nil_left]
      try simp only [hn]
      go_wp2_with (fail)
      exact ⟨rfl, _, rfl, Below.refl _ _, rfl⟩
    · intro xs W hW hn
      simp [flowNeeds, Region.binds] at hn
      simp only [flowAct, List.zipWith_cons_cons, List.zipWith_nil_left]
      try simp only [hn]
      go_wp2_with (fail)
      exact ⟨rfl, _, rfl, Below.refl _ _, rfl⟩
    · intro xs W hW hn
      simp [flowNeeds, Region.binds] at hn
      obtain ⟨c1, c2, c3, c4, c5⟩ := HCS.out W hW
      simp only [flowAct, List.zipWith_cons_cons, List.zipWith_nil_left]
      try simp only [hn]
      go_wp2_with (fail)
      exact ⟨rfl, _, rfl, Below.refl _ _, rfl⟩
    · intro xs W hW hn
      simp [flowNeeds, Region.binds] at hn
      have hag := eqC4 k0 k1 k2 k3 W
      simp only [flowAct, List.zipWith_cons_cons, List.zipWith_nil_left]
      try simp only [hn]
      go_wp2_with (fail)
      exact ⟨rfl, _, rfl, Below.refl _ _, by first | rfl | simp⟩
    · intro xs W hW hn
      simp [flowNeeds, Region.binds] at hn
      simp only [flowAct, List.zipWith_cons_cons, List.zipWith_nil_left]
      try simp only [hn]
      go_wp2_with (fail)
      exact ⟨rfl, _, rfl, Below.refl _ _, by first | rfl | simp⟩
  · intro xs W hW hall
    simp only [flowAll, and_true, Nat.zero_add, Nat.reduceAdd] at hall
    obtain ⟨a0, a1, a2, a3, a4, a5, a6, a7, a8, a9, a10, a11, a12, a13, a14, a15, a16⟩ := hall
    simp only [flowAct, List.zipWith_cons_cons, List.zipWith_nil_left]
    simp only [a16]
    clear a0 a1 a2 a3 a4 a5 a6 a7 a8 a9 a10 a11 a12 a13 a14 a15 a16
    have HW := Lib.hid hW
    obtain ⟨c1, -, -, -, -⟩ := HCS.out W hW
    clear hW hnn HLE HCO
    go_wp2
    clear c1
    go_loopw [30] (fun i wr => ∃ i' : Nat, i' ≤ n ∧ i = .int .i64 (i' : Int) ∧ Below w.heap.size w wr) (fun i _ => n - (RowKit.intOf i).toNat)
    case atStart => exact ⟨0, by omega, rfl, HW.out⟩
    case round =>
      obtain ⟨i, hi, rfl, hb⟩ := hrel
      have HB := Lib.hid hb
      clear hb
      have hn64 := HMX.out
      by_cases hlt : i < n
      · have hii : (i : Int) < (n : Int) := by omega
        have hhas : st.has (i : Int) := ⟨by omega, by rw [HLN.out]; exact hii⟩
        obtain ⟨b, cap, e, hle, -, -, -, hat⟩ := HN.out.pk hhas
        rw [HLN.out, HV.out] at e
        injection e with e1 e2 e3
        subst e1 e3
        have hic : (i : Int) < (rc : Int) := by rw [HLN.out] at hle; omega
        have hlk := HLK.out wr HB.out (i : Int)
        have he : st.look (i : Int) = (st.get (i : Int), 0) := by unfold Nt.look; rw [if_pos hhas]
        unfold LkPost at hlk
        rw [he] at hlk
        obtain ⟨p9, hp9⟩ : ∃ z, st.get (i : Int) = z := ⟨_, rfl⟩
        rw [hp9] at hlk hat
        obtain ⟨pf, hpf⟩ : ∃ z, p9.frm = z := ⟨_, rfl⟩
        obtain ⟨tp, htp⟩ : ∃ z, text p9.s = z := ⟨_, rfl⟩
        have hpa : p9.arr = #[.int .i64 pf, .string tp] := by simp only [Pk.arr, hpf, htp]
        simp only [hpa] at hlk
        rw [hpf, htp, Int.toNat_natCast] at hat
        have HLK2 := Lib.hid hlk
        have HAT := Lib.hid hat
        have HLT := Lib.hid hlt
        clear hlk hat he hp9 hpf htp hpa hhas hle e2 hlt
        go_upto_region 7 with (go_at_call 20; (with_reducible refine HLK2.out.mono ?_); rintro e5 w5 ⟨rfl, hb5⟩; have HB5 := Lib.hid (HB.out.trans (hb5.mono HB.out.size)); clear hb5)
        have hal := alloc_below w5 (.cells #[.int .i64 pf, .string tp] 43)
        have HB6 := Lib.hid (HB5.out.trans (hal.mono HB5.out.size))
        have hbk := heap_alloc_new w5 (.cells #[.int .i64 pf, .string tp] 43)
        obtain ⟨B1, hB1⟩ : ∃ z, w5.heap.size = z := ⟨_, rfl⟩
        rw [hB1] at hbk ⊢
        clear hB1 hal
        generalize w5.alloc (.cells #[.int .i64 pf, .string tp] 43) = w6 at *
        have d0 : w6.cell? ⟨B1, 0, none⟩ = some (.int .i64 pf) := by rw [cell_of_row w6 B1 0 _ _ (0, 0) hbk]; rfl
        have d1 : w6.cell? ⟨B1, 1, none⟩ = some (.string tp) := by rw [cell_of_row w6 B1 1 _ _ (0, 0) hbk]; rfl
        obtain ⟨a0, a1⟩ := HAT.out w6 HB6.out
        obtain ⟨c1, -, -, -, -⟩ := HCS.out w6 HB6.out
        have heq : (pf == pf && tp.toList == tp.toList) = true := by simp
        have hne : (!(pf == pf && tp.toList == tp.toList)) = false := by simp
        clear hbk
        go_quiet (fail)
        have hs : Below w6.heap.size w6 (w6.drewN nq) := ⟨rfl, rfl, rfl, Nat.le_refl _, fun _ _ => rfl⟩
        have HB7 := Lib.hid (HB6.out.trans (hs.mono HB6.out.size))
        clear hs a0 a1 c1 d0 d1
        go_wp2
        go_roundw
        case rel => exact ⟨i + 1, HLT.out, by go_num, HB7.out⟩
        case measure => simp [RowKit.intOf]; have := HLT.out; omega
      · obtain rfl : i = n := by omega
        go_wp2
        go_ret
        exact ⟨rfl, HB.out⟩
    
theorem one_bys (W : World) (x : UInt8) : Bys (W.alloc (.cells #[.int .u8 (x.toNat : Int)] 5 (1, 2))) (some ⟨W.heap.size, 0, none⟩) 1 1 [x] := by
  refine ⟨rfl, Nat.le_refl _, by decide, .inr ⟨W.heap.size, 0, rfl, fun i hi => ?_⟩⟩
  obtain rfl : i = 0 := by omega
  rw [cell_of_row _ W.heap.size 0 _ 5 (1, 2) (heap_alloc_new W _)]
  rfl
def nl1 : Nt := ⟨2, [⟨1, [97]⟩], 1, 0, 0, 0⟩
def nl2 : Nt := ⟨2, [⟨1, [97]⟩, ⟨1, [97]⟩], 1, 0, 0, 1⟩
def nl3 : Nt := ⟨2, [⟨1, [97]⟩], 1, 1, 0, 1⟩
theorem nl_ok0 : (Nt.new 2).Ok 0 := by
  refine ⟨by decide, by decide, by decide, by decide, by decide, by decide, by decide, fun p hp => ?_⟩
  simp [Nt.new] at hp
theorem nl_ok1 : nl1.Ok 1 := nl_ok0.send 1 [97]
theorem nl_ok2 : nl2.Ok 2 := nl_ok1.twice 0
theorem nl_ok3 : nl3.Ok 3 := nl_ok2.took 1
set_option maxRecDepth 100000 in
set_option maxHeartbeats 6400000 in
theorem nlives_c (w : World) : Calls Try.prog 11 #[] w (Tells (.bool true) w) := by
  have kc := fun (w : World) (C : Array Value) (n c : Nat) => Lib.run_convert_bytes_const (P := Try.prog) w 29 5 C n c Try.underlying29 Try.underlying5
  have HNW := Lib.hid (nnew_c 2 w (by decide) (by decide))
  have hx97 : (((97 : UInt8).toNat : Nat) : Int) = 97 := rfl
  have HS1 := Lib.hid (fun (W : World) (g : Nat) (F : Nat → Prop) (h : Nk W 56 g (Nt.new 2) F) => (show Calls Try.prog 16 #[.pointer (some ⟨g, 0, none⟩), .int .i64 1, .slice (some ⟨W.heap.size, 0, none⟩) 1 1] (W.alloc (.cells #[.int .u8 97] 5 (1, 2))) (NPost 56 g F (.int .i64 0) nl1 (W.alloc (.cells #[.int .u8 97] 5 (1, 2)))) from nsend_c (h.below (alloc_below W _)) nl_ok0 (by decide) 1 (one_bys W 97)))
  have HT1 := Lib.hid (fun (W : World) (g : Nat) (F : Nat → Prop) (h : Nk W 56 g nl1 F) => (show Calls Try.prog 18 #[.pointer (some ⟨g, 0, none⟩), .int .i64 0] W (NPost 56 g F (.int .i64 0) nl2 W) from ntwice_c h nl_ok1 (by decide) 0))
  have HS2 := Lib.hid (fun (W : World) (g : Nat) (F : Nat → Prop) (h : Nk W 56 g nl2 F) => (show Calls Try.prog 16 #[.pointer (some ⟨g, 0, none⟩), .int .i64 2, .slice (some ⟨W.heap.size, 0, none⟩) 1 1] (W.alloc (.cells #[.int .u8 98] 5 (1, 2))) (NPost 56 g F (.int .i64 210) nl2 (W.alloc (.cells #[.int .u8 98] 5 (1, 2)))) from nsend_c (h.below (alloc_below W _)) nl_ok2 (by decide) 2 (one_bys W 98)))
  have HK1 := Lib.hid (fun (W : World) (g : Nat) (F : Nat → Prop) (h : Nk W 56 g nl2 F) => (show Calls Try.prog 17 #[.pointer (some ⟨g, 0, none⟩), .int .i64 1] W (NPost 56 g F (.tuple #[.agg #[.int .i64 1, .string ⟨#[97]⟩], .int .i64 0]) nl3 W) from ntake_c h nl_ok2 (by decide) 1))
  have HC1 := Lib.hid (fun (W : World) (g : Nat) (F : Nat → Prop) (h : Nk W 56 g nl3 F) => (show Calls Try.prog 14 #[.pointer (some ⟨g, 0, none⟩)] W (Tells (.agg #[.int .i64 1, .int .i64 1, .int .i64 0, .int .i64 1]) W) from ncounts_c h (by decide)))
  go_enter Try.func11, Try.ntmps11
  go_upto_region 4 with (first
    | (go_at_call 8; (with_reducible refine HNW.out.mono ?_); rintro e1 w1 ⟨g, rfl, F1, hn1, hf1, hb1⟩; have HN1 := Lib.hid hn1; have HF1 := Lib.hid hf1; have HB1 := Lib.hid hb1; clear hn1 hf1 hb1)
    | (go_at_call 18; (with_reducible refine (HT1.out _ _ _ HN2.out).mono ?_); rintro e3 w3 ⟨rfl, F3, hn3, ht3, hf3⟩; have HN3 := Lib.hid hn3; have HF3 := Lib.hid (show ∀ k, F3 k → w.heap.size ≤ k from fun k hk => (hf3 k hk).elim (HF2.out k) (fun h => Nat.le_trans HB2.out.size h)); have HB3 := Lib.hid (HB2.out.trans (ht3.base HB2.out.size HF2.out)); clear hn3 ht3 hf3)
    | (go_at_call 16; (with_reducible refine (HS1.out _ _ _ HN1.out).mono ?_); rintro e2 w2 ⟨rfl, F2, hn2, ht2, hf2⟩; have HA1 := Lib.hid (HB1.out.trans ((alloc_below w1 (.cells #[.int .u8 97] 5 (1, 2))).mono HB1.out.size)); have HN2 := Lib.hid hn2; have HF2 := Lib.hid (show ∀ k, F2 k → w.heap.size ≤ k from fun k hk => (hf2 k hk).elim (HF1.out k) (fun h => Nat.le_trans HA1.out.size h)); have HB2 := Lib.hid (HA1.out.trans (ht2.base HA1.out.size HF1.out)); clear hn2 ht2 hf2)
    | (go_at_call 16; (with_reducible refine (HS2.out _ _ _ HN3.out).mono ?_); rintro e4 w4 ⟨rfl, F4, hn4, ht4, hf4⟩; have HA3 := Lib.hid (HB3.out.trans ((alloc_below w3 (.cells #[.int .u8 98] 5 (1, 2))).mono HB3.out.size)); have HN4 := Lib.hid hn4; have HF4 := Lib.hid (show ∀ k, F4 k → w.heap.size ≤ k from fun k hk => (hf4 k hk).elim (HF3.out k) (fun h => Nat.le_trans HA3.out.size h)); have HB4 := Lib.hid (HA3.out.trans (ht4.base HA3.out.size HF3.out)); clear hn4 ht4 hf4))
  go_upto_region 5 with (go_at_call 17; (with_reducible refine (HK1.out _ _ _ HN4.out).mono ?_); rintro e5 w5 ⟨rfl, F5, hn5, ht5, hf5⟩; have HN5 := Lib.hid hn5; have HB5 := Lib.hid (HB4.out.trans (ht5.base HB4.out.size HF4.out)); clear hn5 ht5 hf5)
  have heqc := fun w => eqC4 1 1 0 1 w
  have hal := alloc_below w5 (.cells #[.int .i64 1, .string ⟨#[97]⟩] 43)
  have HN6 := Lib.hid (HN5.out.below hal)
  have HB6 := Lib.hid (HB5.out.trans (hal.mono HB5.out.size))
  have hbk := heap_alloc_new w5 (.cells #[.int .i64 1, .string ⟨#[97]⟩] 43)
  obtain ⟨B1, hB1⟩ : ∃ z, w5.heap.size = z := ⟨_, rfl⟩
  rw [hB1] at hbk ⊢
  clear hB1 hal
  generalize w5.alloc (.cells #[.int .i64 1, .string ⟨#[97]⟩] 43) = w6 at *
  have d0 : w6.cell? ⟨B1, 0, none⟩ = some (.int .i64 1) := by rw [cell_of_row w6 B1 0 _ _ (0, 0) hbk]; rfl
  have d1 : w6.cell? ⟨B1, 1, none⟩ = some (.string ⟨#[97]⟩) := by rw [cell_of_row w6 B1 1 _ _ (0, 0) hbk]; rfl
  clear hbk
  go_wp2_with (go_at_call 14; (with_reducible refine (HC1.out _ _ _ HN6.out).mono ?_); rintro e7 w7 ⟨rfl, hb7⟩; have HB7 := Lib.hid (HB6.out.trans (hb7.mono HB6.out.size)); clear hb7)
  go_ret
  exact ⟨by first | rfl | simp, HB7.out⟩
end Go.Proofs.Ytngfohedddcboaa
