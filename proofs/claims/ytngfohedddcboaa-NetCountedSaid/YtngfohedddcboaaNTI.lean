/-
  Net: the walk of NetCounted.
-/
import Derived.Test.YtngfohedddcboaaNTH
namespace Go.Proofs.Ytngfohedddcboaa
open Go.RowKit Go Go.Sort Go.Lib Go.Maps
set_option linter.unusedVariables false
set_option maxRecDepth 20000

/-- What was sent and doubled was taken, dropped, or is there. -/
def Nt.Inv (q : Nt) : Prop := q.c0 + q.c3 = q.c1 + q.c2 + (q.l.length : Int)
theorem Nt.Inv.act {q : Nt} (h : q.Inv) (a : Na) : (q.act a).Inv ∧ (q.act a).most = q.most := by
  unfold Nt.act
  split
  · unfold Nt.send
    split
    · exact ⟨h, rfl⟩
    · split
      · exact ⟨h, rfl⟩
      · split
        · exact ⟨h, rfl⟩
        · refine ⟨?_, rfl⟩
          unfold Nt.Inv at h ⊢
          simp only [List.length_append, List.length_cons, List.length_nil]
          omega
  · split
    · unfold Nt.took
      split
      · rename_i hh
        have := Nt.rest_length hh
        have h1 := hh.2
        have h0 := hh.1
        refine ⟨?_, rfl⟩
        unfold Nt.Inv at h ⊢
        simp only
        omega
      · exact ⟨h, rfl⟩
    · split
      · unfold Nt.drop
        split
        · rename_i hh
          have := Nt.rest_length hh
          have h1 := hh.2
          have h0 := hh.1
          refine ⟨?_, rfl⟩
          unfold Nt.Inv at h ⊢
          simp only
          omega
        · exact ⟨h, rfl⟩
      · split
        · unfold Nt.twice
          split
          · exact ⟨h, rfl⟩
          · split
            · exact ⟨h, rfl⟩
            · refine ⟨?_, rfl⟩
              unfold Nt.Inv at h ⊢
              simp only [List.length_append, List.length_cons, List.length_nil]
              omega
        · split
          · unfold Nt.turn
            split
            · exact ⟨h, rfl⟩
            · split
              · exact ⟨h, rfl⟩
              · refine ⟨?_, rfl⟩
                unfold Nt.Inv at h ⊢
                simp only [List.length_set]
                exact h
          · exact ⟨h, rfl⟩
theorem eqC4g (a b c d a' b' c' d' : Int) (w : World) : (Op.equalIn 10000 36 (.agg #[.int .i64 a, .int .i64 b, .int .i64 c, .int .i64 d]) (.agg #[.int .i64 a', .int .i64 b', .int .i64 c', .int .i64 d'])).run Try.prog w = .ok (a == a' && b == b' && c == c' && d == d') w := by
  have u3 := Try.underlying3
  have z3 : (Try.prog.info? 3).map (·.size) = some 1 := by kernel_rfl
  rw [show (10000 : Nat) = 9999 + 1 from rfl, Op.equalIn]
  simp only [Sem.run_bind, run_underlying Try.underlying36, Result.andThen_ok]
  simp only [Std.Legacy.Range.forIn_eq_forIn_range', Std.Legacy.Range.size, Nat.sub_zero, Nat.add_sub_cancel, Nat.div_one, List.range'_succ, List.range'_zero, List.forIn_cons, List.forIn_nil]
  go_simp
  by_cases h1 : a = a' <;> by_cases h2 : b = b' <;> by_cases h3 : c = c' <;> by_cases h4 : d = d' <;> simp [h1, h2, h3, h4]
theorem umodN (z M : Int) (h0 : 0 < M) (h1 : M ≤ 4611686018427387904) : ∃ q : Int, wrap64 ((IntKind.u64.wrap z).tmod M) = q ∧ 0 ≤ q ∧ q < M := by
  have e : IntKind.u64.wrap z = z % 18446744073709551616 := by simp [IntKind.wrap, IntKind.signed, IntKind.bits]
  rw [e]
  have h2 : 0 ≤ z % 18446744073709551616 := Int.emod_nonneg _ (by decide)
  rw [Int.tmod_eq_emod_of_nonneg h2]
  have h3 := Int.emod_nonneg (z % 18446744073709551616) (show M ≠ 0 by omega)
  have h4 := Int.emod_lt_of_pos (z % 18446744073709551616) h0
  refine ⟨_, rfl, ?_⟩
  unfold wrap64
  omega
set_option maxRecDepth 100000 in
set_option maxHeartbeats 12800000 in
theorem ncounted_walk {w : World} (most : Int) {a : Option Addr} {m cap : Nat} {L : List Na} (hl : Nas w a m cap L) : Calls Try.prog 4 #[.int .i64 most, .slice a m cap] w (Tells (.bool true) w) := by
  have hle := hl.le
  have hmax := hl.max
  have HLN := Lib.hid hl.len
  have HL := Lib.hid hl
  have HLV := Lib.hid (fun W => nlives_c W)
  clear hl
  obtain ⟨k, hk0, hk1, hk2⟩ := umodN most 64 (by omega) (by omega)
  have HN := Lib.hid (fun W => nnew_c (1 + k) W (by omega) (by omega))
  have HRN := Lib.hid (fun W => rnnew_c (1 + k) W (by omega) (by omega))
  have HOK0 := Lib.hid (nt_new_ok (k := 1 + k) (by omega) (by omega))
  have HI0 := Lib.hid (show (Nt.new (1 + k)).Inv ∧ (Nt.new (1 + k)).most = 1 + k from ⟨by simp [Nt.Inv, Nt.new], rfl⟩)
  have hw2 : IntKind.i64.wrap (1 + k) = 1 + k := by rw [IntKind.wrap_i64]; omega
  have HLT := Lib.hid (fun W (hW : Below w.heap.size w W) => nlight_c (HL.out.below hW))
  obtain ⟨K, hK⟩ : ∃ z, 1 + k = z := ⟨_, rfl⟩
  rw [hK] at HN HRN HOK0 HI0
  have hw3 : IntKind.i64.wrap (1 + k) = K := by rw [hw2, hK]
  clear hw2 hK
  go_enter Try.func4, Try.ntmps4
  go_upto_region 3 with (first
    | (go_at_call 8; (with_reducible refine (HN.out _).mono ?_); rintro e1 w1 ⟨q, rfl, F1, hd1, hf1, hb1⟩; have HD1 := Lib.hid hd1; have HF1 := Lib.hid hf1; have HB1 := Lib.hid hb1; clear hd1 hf1 hb1)
    | (go_at_call 9; (with_reducible refine (HRN.out _).mono ?_); rintro e2 w2 ⟨r, rfl, G2, hr2, hg2, hb2⟩; have HT2 := Lib.hid (twn_new HD1.out HF1.out HB1.out hr2 hg2 hb2); clear hr2 hg2 hb2))
  clear hw3 hk0 hk1 hk2
  go_upto_region 4 with (go_at_call 10; (with_reducible refine (HLT.out _ HT2.out.b).mono ?_); rintro e5 w5 ⟨b5, rfl, hb5, hB5⟩; have HT5 := Lib.hid (HT2.out.below hB5); have HLI := Lib.hid hb5; clear hB5 hb5; cases b5)
  · go_wp2_with (go_at_call 11; (with_reducible refine (HLV.out _).mono ?_); rintro e8 w8 ⟨rfl, hb8⟩)
    go_ret
    exact ⟨rfl, HT5.out.b.trans (hb8.mono HT5.out.b.size)⟩
  · go_wp2
    go_loopw [36] (fun i wr => ∃ (j : Nat) (st : Nt), j ≤ m ∧ i = .int .i64 (j : Int) ∧ TwN w q r st wr ∧ st.Ok j ∧ st.Inv ∧ st.most = K) (fun i _ => m - (RowKit.intOf i).toNat)
    case atStart => exact ⟨0, _, by omega, rfl, HT5.out, HOK0.out, HI0.out⟩
    case round =>
      obtain ⟨j, st, hj, rfl, ht, hok, hin⟩ := hrel
      have HT := Lib.hid ht
      have HOK := Lib.hid hok
      have HI := Lib.hid hin
      clear ht hok hin
      by_cases hlt : j < m
      · have hji : (j : Int) < (m : Int) := by omega
        have hjc : (j : Int) < (cap : Int) := by omega
        obtain ⟨bl, off, x, c, rfl, hy, hz0, hz1, hat⟩ := HL.out.place hlt
        have hml : (L.getD j Na.zero).l.length ≤ 20000 := by
          have := (HLI.out (by first | rfl | trivial)).2 _ (by
            rw [List.getD_eq_getElem?_getD, List.getElem?_eq_getElem (by rw [HLN.out]; exact hlt)]
            exact List.getElem_mem _ : L.getD j Na.zero ∈ L)
          omega
        obtain ⟨c0, c1, c2, c3, c4, c5⟩ := hat wr HT.out.b
        obtain ⟨A, hA⟩ : ∃ z, L.getD j Na.zero = z := ⟨_, rfl⟩
        rw [hA] at hy hz0 hz1 hml c0 c1 c2 c3 c4 c5
        obtain ⟨s', hs'⟩ : ∃ z, st.act A = z := ⟨_, rfl⟩
        have HOK' := Lib.hid (show s'.Ok (j + 1) from by rw [← hs']; exact HOK.out.act A)
        have HDO := Lib.hid (fun (Wp : World) (h : TwN w q r st Wp) o => twn_do h HOK.out (by have := (HLI.out (by first | rfl | trivial)).1; omega) A hy hz0 hz1 hml hs' o)
        have HJM := Lib.hid hlt
        have HSA := Lib.hid hs'
        have HIV := Lib.hid (show s'.Inv ∧ s'.most = st.most from by rw [← hs']; exact HI.out.1.act A)
        obtain ⟨al, hal⟩ : ∃ z, A.l.length = z := ⟨_, rfl⟩
        obtain ⟨kd, hkd⟩ : ∃ z, A.kd = z := ⟨_, rfl⟩
        obtain ⟨af, haf⟩ : ∃ z, A.frm = z := ⟨_, rfl⟩
        obtain ⟨ai, hai⟩ : ∃ z, A.i = z := ⟨_, rfl⟩
        obtain ⟨aa, haa⟩ : ∃ z, A.at9 = z := ⟨_, rfl⟩
        obtain ⟨az, haz⟩ : ∃ z, A.z = z := ⟨_, rfl⟩
        simp only [hal, hkd, haf, hai, haa, haz] at HDO
        rw [hkd] at c0
        rw [haf] at c1
        rw [hal] at c2
        rw [hai] at c3
        rw [haa] at c4
        rw [haz] at c5
        clear hat hy hz0 hz1 hml hA hs' hal hkd haf hai haa haz hlt
        have hxx := heap_alloc_new wr (.cells #[.int .i64 kd, .int .i64 af, .slice x al c, .int .i64 ai, .int .i64 aa, .int .u8 az] 31)
        go_upto_region 8 with (fail)
        obtain ⟨gx, hgx⟩ : ∃ z, wr.heap.size = z := ⟨_, rfl⟩
        have hal0 := alloc_below wr (.cells #[.int .i64 kd, .int .i64 af, .slice x al c, .int .i64 ai, .int .i64 aa, .int .u8 az] 31)
        have HTA := Lib.hid (HT.out.below hal0)
        rw [hgx] at hxx ⊢
        clear c0 c1 c2 c3 c4 c5 hgx hal0
        generalize wr.alloc (.cells #[.int .i64 kd, .int .i64 af, .slice x al c, .int .i64 ai, .int .i64 aa, .int .u8 az] 31) = W1 at *
        have HXX := Lib.hid hxx
        clear hxx
        have HCO := Lib.hid (fun (W : World) (hW : Below W1.heap.size W1 W) => twn_counts (HTA.out.below hW) HOK.out)
        have HLE0 := Lib.hid (fun (W : World) (hW : Below W1.heap.size W1 W) => twn_len (HTA.out.below hW) HOK.out)
        have HE1 := Lib.hid HI.out.1
        unfold Nt.Inv at HE1
        obtain ⟨k0, hk0⟩ : ∃ z, st.c0 = z := ⟨_, rfl⟩
        obtain ⟨k1, hk1⟩ : ∃ z, st.c1 = z := ⟨_, rfl⟩
        obtain ⟨k2, hk2⟩ : ∃ z, st.c2 = z := ⟨_, rfl⟩
        obtain ⟨k3, hk3⟩ : ∃ z, st.c3 = z := ⟨_, rfl⟩
        obtain ⟨n1, hn1⟩ : ∃ z, st.l.length = z := ⟨_, rfl⟩
        have hcv : cntV st = .agg #[.int .i64 k0, .int .i64 k1, .int .i64 k2, .int .i64 k3] := by unfold cntV; rw [hk0, hk1, hk2, hk3]
        rw [hcv] at HCO
        rw [hn1] at HLE0
        rw [hk0, hk1, hk2, hk3, hn1] at HE1
        clear hk0 hk1 hk2 hk3 hn1 hcv
        go_upto_region 9 with (first
          | (go_at_call 14; (with_reducible refine (HCO.out _ (Below.refl _ _)).mono ?_); rintro e2 w2 ⟨rfl, ht2, hb2⟩; have HTB := Lib.hid ht2; have HB2 := Lib.hid hb2; clear ht2 hb2)
          | (go_at_call 15; (with_reducible refine (HLE0.out _ HB2.out).mono ?_); rintro e3 w3 ⟨rfl, rfl⟩))
        have hal2 := alloc_below w2 (.cells #[.int .i64 k0, .int .i64 k1, .int .i64 k2, .int .i64 k3] 36)
        have hbk := heap_alloc_new w2 (.cells #[.int .i64 k0, .int .i64 k1, .int .i64 k2, .int .i64 k3] 36)
        have HDO2 := Lib.hid (HDO.out w2 HTB.out (.cells #[.int .i64 k0, .int .i64 k1, .int .i64 k2, .int .i64 k3] 36))
        have hx3 := ((HB2.out.trans (hal2.mono HB2.out.size)).block gx (Array.getElem?_eq_some_iff.1 HXX.out).1).trans HXX.out
        obtain ⟨BK, hBK⟩ : ∃ z, w2.heap.size = z := ⟨_, rfl⟩
        rw [hBK] at hbk HDO2 ⊢
        rw [hbk] at HDO2
        clear HDO hal2 hBK hbk
        generalize w2.alloc (.cells #[.int .i64 k0, .int .i64 k1, .int .i64 k2, .int .i64 k3] 36) = w3 at *
        have x0 : w3.cell? ⟨gx, 0, none⟩ = some (.int .i64 kd) := by rw [cell_of_row _ gx 0 _ _ (0, 0) hx3]; rfl
        have x1 : w3.cell? ⟨gx, 1, none⟩ = some (.int .i64 af) := by rw [cell_of_row _ gx 1 _ _ (0, 0) hx3]; rfl
        have x2 : w3.cell? ⟨gx, 2, none⟩ = some (.slice x al c) := by rw [cell_of_row _ gx 2 _ _ (0, 0) hx3]; rfl
        have x3 : w3.cell? ⟨gx, 3, none⟩ = some (.int .i64 ai) := by rw [cell_of_row _ gx 3 _ _ (0, 0) hx3]; rfl
        have x4 : w3.cell? ⟨gx, 4, none⟩ = some (.int .i64 aa) := by rw [cell_of_row _ gx 4 _ _ (0, 0) hx3]; rfl
        have x5 : w3.cell? ⟨gx, 5, none⟩ = some (.int .u8 az) := by rw [cell_of_row _ gx 5 _ _ (0, 0) hx3]; rfl
        clear hx3
        have HE2 := Lib.hid HIV.out.1
        unfold Nt.Inv at HE2
        have HCO2 := Lib.hid (fun (W : World) (h : TwN w q r s' W) => twn_counts h HOK'.out)
        have HLE2 := Lib.hid (fun (W : World) (h : TwN w q r s' W) => twn_len h HOK'.out)
        have HMK := Lib.hid (show (s'.l.length : Int) ≤ K ∧ 0 ≤ s'.c0 ∧ s'.c0 ≤ 2000 ∧ 0 ≤ s'.c1 ∧ s'.c1 ≤ 2000 ∧ 0 ≤ s'.c2 ∧ s'.c2 ≤ 2000 ∧ 0 ≤ s'.c3 ∧ s'.c3 ≤ 2000 from by
          have h1 := HOK'.out.len
          have h2 := HIV.out.2
          have h3 := HI.out.2
          have h4 := (HLI.out (by first | rfl | trivial)).1
          have h5 := HJM.out
          have := HOK'.out.b0; have := HOK'.out.b1; have := HOK'.out.b2; have := HOK'.out.b3
          omega)
        obtain ⟨d0, hd0⟩ : ∃ z, s'.c0 = z := ⟨_, rfl⟩
        obtain ⟨d1, hd1⟩ : ∃ z, s'.c1 = z := ⟨_, rfl⟩
        obtain ⟨d2, hd2⟩ : ∃ z, s'.c2 = z := ⟨_, rfl⟩
        obtain ⟨d3, hd3⟩ : ∃ z, s'.c3 = z := ⟨_, rfl⟩
        obtain ⟨n2, hn2⟩ : ∃ z, s'.l.length = z := ⟨_, rfl⟩
        have hcv : cntV s' = .agg #[.int .i64 d0, .int .i64 d1, .int .i64 d2, .int .i64 d3] := by unfold cntV; rw [hd0, hd1, hd2, hd3]
        rw [hcv] at HCO2
        rw [hn2] at HLE2
        rw [hd0, hd1, hd2, hd3, hn2] at HE2 HMK
        clear hd0 hd1 hd2 hd3 hn2 hcv
        go_upto_region 11 with (go_at_call 12; (with_reducible refine HDO2.out.mono ?_); rintro e4 w4 ⟨rfl, ht4, hx4⟩; have HT4 := Lib.hid ht4; have HX4 := Lib.hid hx4; clear ht4 hx4)
        clear x0 x1 x2 x3 x4 x5
        go_upto_region 12 with (go_at_call 14; (with_reducible refine (HCO2.out _ HT4.out).mono ?_); rintro e5 w5 ⟨rfl, ht5, hb5⟩; have HT5' := Lib.hid ht5; have HX5 := Lib.hid ((hb5.block BK (Array.getElem?_eq_some_iff.1 HX4.out).1).trans HX4.out); clear ht5 hb5)
        have hal5 := alloc_below w5 (.cells #[.int .i64 d0, .int .i64 d1, .int .i64 d2, .int .i64 d3] 36)
        have HT6 := Lib.hid (HT5'.out.below hal5)
        have HX6 := Lib.hid ((hal5.block BK (Array.getElem?_eq_some_iff.1 HX5.out).1).trans HX5.out)
        have HD6 := Lib.hid (heap_alloc_new w5 (.cells #[.int .i64 d0, .int .i64 d1, .int .i64 d2, .int .i64 d3] 36))
        obtain ⟨BD, hBD⟩ : ∃ z, w5.heap.size = z := ⟨_, rfl⟩
        rw [hBD] at HD6 ⊢
        clear hal5 hBD
        generalize w5.alloc (.cells #[.int .i64 d0, .int .i64 d1, .int .i64 d2, .int .i64 d3] 36) = w6 at *
        have HDC := Lib.hid (fun (W : World) (hW : Below w6.heap.size w6 W) => show W.cell? ⟨BD, 0, none⟩ = some (.int .i64 d0) ∧ W.cell? ⟨BD, 1, none⟩ = some (.int .i64 d1) ∧ W.cell? ⟨BD, 2, none⟩ = some (.int .i64 d2) ∧ W.cell? ⟨BD, 3, none⟩ = some (.int .i64 d3) from by
          have hx := (hW.block BD (Array.getElem?_eq_some_iff.1 HD6.out).1).trans HD6.out
          refine ⟨?_, ?_, ?_, ?_⟩ <;> (rw [cell_of_row W BD _ _ _ (0, 0) hx]; rfl))
        have HBC := Lib.hid (fun (W : World) (hW : Below w6.heap.size w6 W) => show W.cell? ⟨BK, 0, none⟩ = some (.int .i64 k0) ∧ W.cell? ⟨BK, 1, none⟩ = some (.int .i64 k1) ∧ W.cell? ⟨BK, 2, none⟩ = some (.int .i64 k2) ∧ W.cell? ⟨BK, 3, none⟩ = some (.int .i64 k3) from by
          have hx := (hW.block BK (Array.getElem?_eq_some_iff.1 HX6.out).1).trans HX6.out
          refine ⟨?_, ?_, ?_, ?_⟩ <;> (rw [cell_of_row W BK _ _ _ (0, 0) hx]; rfl))
        have HLE := Lib.hid (fun (W : World) (hW : Below w6.heap.size w6 W) => HLE2.out W (HT6.out.below hW))
        obtain ⟨TT, hTT⟩ : ∃ z, d0 + d3 = z := ⟨_, rfl⟩
        obtain ⟨UU, hUU⟩ : ∃ z, d1 + d2 = z := ⟨_, rfl⟩
        have hwT : IntKind.i64.wrap (d0 + d3) = TT := by rw [IntKind.wrap_i64]; have := HMK.out; omega
        have hwU : IntKind.i64.wrap (d1 + d2) = UU := by rw [IntKind.wrap_i64]; have := HMK.out; omega
        have hwS : IntKind.i64.wrap (UU + (n2 : Int)) = TT := by rw [IntKind.wrap_i64]; have := HMK.out; have := HE2.out; omega
        have hgt : ¬ K < (n2 : Int) := by have := HMK.out; omega
        have hne : (TT != TT) = false := by simp
        clear hTT hUU
        refine wp_region_flow [none, none, none, none, none, none, none, none, none, none, none, none, none, none, none, none, none, none, none, none, none, none, none, none, none, none, none, none, none, none, none, none, none, none, none, none, none, none, none, none, none, none, none, none, none, none, none, none, none, none, none, some 0, some 1, some 2, some 3, some 4, some 5, some 6, some 7, some 8, some 9, some 10, some 11, some 12, some 13, some 14, some 15, some 16, some 17, some 18, some 19, none, none, none, none, none, none, none, none, none, none, none] (fun i => [u51, u52, u53, u54, u55, u56, u57, u58, u59, u60, u61, u62, u63, u64, u65, u66, u67, u68, u69, u70].getD i undef) [(fun v _ => v = .pointer (some ⟨BD, 0, none⟩)), (fun v _ => v = .int .i64 d0), (fun v _ => v = .pointer (some ⟨BD, 3, none⟩)), (fun v _ => v = .int .i64 d3), (fun v _ => v = .int .i64 TT), (fun v _ => v = .pointer (some ⟨BD, 1, none⟩)), (fun v _ => v = .int .i64 d1), (fun v _ => v = .pointer (some ⟨BD, 2, none⟩)), (fun v _ => v = .int .i64 d2), (fun v _ => v = .int .i64 UU), (fun v _ => v = .pointer (some ⟨q, 0, none⟩)), (fun v _ => v = .int .i64 (n2 : Int)), (fun v _ => v = .int .i64 TT), (fun v _ => v = .bool false), (fun v _ => v = .bool false), (fun v _ => v = .pointer (some ⟨q, 0, none⟩)), (fun v _ => v = .int .i64 (n2 : Int)), (fun v _ => v = .int .i64 K), (fun v _ => v = .bool false), (fun v _ => v = .bool false)] (by kernel_rfl) (by kernel_rfl) rfl rfl rfl ?_ ?_ ?_
        · intro g hg v X Y hX hY hv
          simp only [List.mem_cons, List.not_mem_nil, or_false] at hg
          rcases hg with rfl | rfl | rfl | rfl | rfl | rfl | rfl | rfl | rfl | rfl | rfl | rfl | rfl | rfl | rfl | rfl | rfl | rfl | rfl | rfl
          all_goals first
            | exact hv
            | exact hv.kept hY
        · simp only [flowOps, and_true]
          refine ⟨?_, ?_, ?_, ?_, ?_, ?_, ?_, ?_, ?_, ?_, ?_, ?_, ?_, ?_, ?_, ?_, ?_, ?_, ?_, ?_⟩
          · intro xs W hW hn
            simp only [flowAct, List.zipWith_cons_cons, List.zipWith_nil_left]
            go_wp2_with (fail)
            exact ⟨rfl, _, rfl, Below.refl _ _, rfl⟩
          · intro xs W hW hn
            simp [flowNeeds, Region.binds] at hn
            obtain ⟨z0, z1, z2, z3⟩ := HDC.out W hW
            simp only [flowAct, List.zipWith_cons_cons, List.zipWith_nil_left]
            try simp only [hn]
            go_wp2_with (fail)
            exact ⟨rfl, _, rfl, Below.refl _ _, rfl⟩
          · intro xs W hW hn
            simp only [flowAct, List.zipWith_cons_cons, List.zipWith_nil_left]
            go_wp2_with (fail)
            exact ⟨rfl, _, rfl, Below.refl _ _, rfl⟩
          · intro xs W hW hn
            simp [flowNeeds, Region.binds] at hn
            obtain ⟨z0, z1, z2, z3⟩ := HDC.out W hW
            simp only [flowAct, List.zipWith_cons_cons, List.zipWith_nil_left]
            try simp only [hn]
            go_wp2_with (fail)
            exact ⟨rfl, _, rfl, Below.refl _ _, rfl⟩
          · intro xs W hW hn
            simp [flowNeeds, Region.binds] at hn
            simp only [flowAct, List.zipWith_cons_cons, List.zipWith_nil_left]
            try simp only [hn]
            go_wp2_with (fail)
            exact ⟨rfl, _, rfl, Below.refl _ _, by first | rfl | simp⟩
          · intro xs W hW hn
            simp only [flowAct, List.zipWith_cons_cons, List.zipWith_nil_left]
            go_wp2_with (fail)
            exact ⟨rfl, _, rfl, Below.refl _ _, rfl⟩
          · intro xs W hW hn
            simp [flowNeeds, Region.binds] at hn
            obtain ⟨z0, z1, z2, z3⟩ := HDC.out W hW
            simp only [flowAct, List.zipWith_cons_cons, List.zipWith_nil_left]
            try simp only [hn]
            go_wp2_with (fail)
            exact ⟨rfl, _, rfl, Below.refl _ _, rfl⟩
          · intro xs W hW hn
            simp only [flowAct, List.zipWith_cons_cons, List.zipWith_nil_left]
            go_wp2_with (fail)
            exact ⟨rfl, _, rfl, Below.refl _ _, rfl⟩
          · intro xs W hW hn
            simp [flowNeeds, Region.binds] at hn
            obtain ⟨z0, z1, z2, z3⟩ := HDC.out W hW
            simp only [flowAct, List.zipWith_cons_cons, List.zipWith_nil_left]
            try simp only [hn]
            go_wp2_with (fail)
            exact ⟨rfl, _, rfl, Below.refl _ _, rfl⟩
          · intro xs W hW hn
            simp [flowNeeds, Region.binds] at hn
            simp only [flowAct, List.zipWith_cons_cons, List.zipWith_nil_left]
            try simp only [hn]
            go_wp2_with (fail)
            exact ⟨rfl, _, rfl, Below.refl _ _, by first | rfl | simp⟩
          · intro xs W hW hn
            simp only [flowAct, List.zipWith_cons_cons, List.zipWith_nil_left]
            go_wp2_with (fail)
            exact ⟨rfl, _, rfl, Below.refl _ _, rfl⟩
          · intro xs W hW hn
            simp [flowNeeds, Region.binds] at hn
            simp only [flowAct, List.zipWith_cons_cons, List.zipWith_nil_left]
            try simp only [hn]
            go_wp2_with (go_at_call 15; (with_reducible refine (HLE.out _ hW).mono ?_); rintro e9 w9 ⟨rfl, rfl⟩)
            exact ⟨rfl, _, rfl, Below.refl _ _, rfl⟩
          · intro xs W hW hn
            simp [flowNeeds, Region.binds] at hn
            simp only [flowAct, List.zipWith_cons_cons, List.zipWith_nil_left]
            try simp only [hn]
            go_wp2_with (fail)
            exact ⟨rfl, _, rfl, Below.refl _ _, by first | rfl | simp⟩
          · intro xs W hW hn
            simp [flowNeeds, Region.binds] at hn
            simp only [flowAct, List.zipWith_cons_cons, List.zipWith_nil_left]
            try simp only [hn]
            go_wp2_with (fail)
            exact ⟨rfl, _, rfl, Below.refl _ _, by first | rfl | simp⟩
          · intro xs W hW hn
            simp [flowNeeds, Region.binds] at hn
            simp only [flowAct, List.zipWith_cons_cons, List.zipWith_nil_left]
            try simp only [hn]
            go_wp2_with (fail)
            exact ⟨rfl, _, rfl, Below.refl _ _, by first | rfl | simp⟩
          · intro xs W hW hn
            simp [flowNeeds, Region.binds] at hn
            simp only [flowAct, List.zipWith_cons_cons, List.zipWith_nil_left]
            try simp only [hn]
            go_wp2_with (fail)
            exact ⟨rfl, _, rfl, Below.refl _ _, by first | rfl | simp⟩
          · intro xs W hW hn
            simp [flowNeeds, Region.binds] at hn
            simp only [flowAct, List.zipWith_cons_cons, List.zipWith_nil_left]
            try simp only [hn]
            go_wp2_with (go_at_call 15; (with_reducible refine (HLE.out _ hW).mono ?_); rintro e9 w9 ⟨rfl, rfl⟩)
            exact ⟨rfl, _, rfl, Below.refl _ _, rfl⟩
          · intro xs W hW hn
            simp [flowNeeds, Region.binds] at hn
            simp only [flowAct, List.zipWith_cons_cons, List.zipWith_nil_left]
            try simp only [hn]
            go_wp2_with (fail)
            exact ⟨rfl, _, rfl, Below.refl _ _, by first | rfl | simp⟩
          · intro xs W hW hn
            simp [flowNeeds, Region.binds] at hn
            simp only [flowAct, List.zipWith_cons_cons, List.zipWith_nil_left]
            try simp only [hn]
            go_wp2_with (fail)
            exact ⟨rfl, _, rfl, Below.refl _ _, by first | rfl | simp⟩
          · intro xs W hW hn
            simp [flowNeeds, Region.binds] at hn
            simp only [flowAct, List.zipWith_cons_cons, List.zipWith_nil_left]
            try simp only [hn]
            go_wp2_with (fail)
            exact ⟨rfl, _, rfl, Below.refl _ _, by first | rfl | simp⟩
        · intro xs W hW hall
          simp only [flowAll, and_true, Nat.zero_add, Nat.reduceAdd] at hall
          obtain ⟨a0, a1, a2, a3, a4, a5, a6, a7, a8, a9, a10, a11, a12, a13, a14, a15, a16, a17, a18, a19⟩ := hall
          simp only [flowAct, List.zipWith_cons_cons, List.zipWith_nil_left]
          simp only [a19]
          clear a0 a1 a2 a3 a4 a5 a6 a7 a8 a9 a10 a11 a12 a13 a14 a15 a16 a17 a18 a19
          have HTW := Lib.hid (HT6.out.below hW)
          obtain ⟨z0, z1, z2, z3⟩ := HDC.out W hW
          obtain ⟨y0, y1, y2, y3⟩ := HBC.out W hW
          have HLE3 := Lib.hid (HLE.out W hW)
          clear hW hwT hwU hwS hgt hne
          obtain ⟨bq, hbq⟩ : ∃ z, (d0 == k0 && d1 == k1 && d2 == k2 && d3 == k3) = z := ⟨_, rfl⟩
          have heq := fun w => eqC4g d0 d1 d2 d3 k0 k1 k2 k3 w
          rw [hbq] at heq
          cases bq
          · go_wp2
            go_roundw
            case rel => exact ⟨j + 1, s', HJM.out, by go_num, HTW.out, HOK'.out, ⟨HIV.out.1, HIV.out.2.trans HI.out.2⟩⟩
            case measure => simp [RowKit.intOf]; have := HJM.out; omega
          · have hn12 : ((n2 : Int) != (n1 : Int)) = false := by
              simp only [Bool.and_eq_true, beq_iff_eq] at hbq
              obtain ⟨⟨⟨e0, e1⟩, e2⟩, e3⟩ := hbq
              have h1 := HE1.out
              have h2 := HE2.out
              simp; omega
            go_wp2_with (go_at_call 15; (with_reducible refine (HLE3.out).mono ?_); rintro e9 w9 ⟨rfl, rfl⟩)
            go_roundw
            case rel => exact ⟨j + 1, s', HJM.out, by go_num, HTW.out, HOK'.out, ⟨HIV.out.1, HIV.out.2.trans HI.out.2⟩⟩
            case measure => simp [RowKit.intOf]; have := HJM.out; omega
  
      · obtain rfl : j = m := by omega
        go_wp2_with (go_at_call 11; (with_reducible refine (HLV.out _).mono ?_); rintro e8 w8 ⟨rfl, hb8⟩)
        go_ret
        exact ⟨rfl, HT.out.b.trans (hb8.mono HT.out.b.size)⟩

end Go.Proofs.Ytngfohedddcboaa
