/-
  The reference's Read and Text.
-/
import Derived.Test.YticcmhgahbnboaaDoorU2
namespace Go.Proofs.YticcmhgahbnboaaDoor
open Go.RowKit Go
set_option linter.unusedVariables false

attribute [-go_sem] run_index_string
set_option maxRecDepth 100000 in
set_option maxHeartbeats 1600000 in
theorem rread_c (s : List UInt8) (hlim : s.length ≤ 1000000) {w : World} : Calls Tryd.prog 32 #[.string (text s)] w (ReadPost .i64 s w) := by
  have hI := ReadInv.start w s
  have HAT := Lib.hid (text_at s)
  have hsz : (text s).size = s.length := by unfold text; simp [ByteArray.size]
  obtain ⟨S, hS⟩ : ∃ S, text s = S := ⟨_, rfl⟩
  rw [hS] at HAT hsz ⊢
  obtain ⟨n, hn⟩ : ∃ n, s.length = n := ⟨_, rfl⟩
  rw [hn] at HAT hsz hlim
  have HN := Lib.hid hn
  obtain ⟨zs, hzs⟩ : ∃ l, List.replicate 32 (0 : UInt8) = l := ⟨_, rfl⟩
  have hzl : zs.length = 32 := by rw [← hzs]; rfl
  have HZS := Lib.hid hzs
  have hmz := size_dig zs hzl
  have HBU := Lib.hid (show Tryd.prog.built 46 [] = some (u8v zs).toArray by rw [← hzs]; kernel_rfl)
  have hsz32 : (u8v zs).length = 32 := by rw [u8v_length]; exact hzl
  clear hS hn hzs
  go_enter Tryd.func32, Tryd.ntmps32
  go_upto_region 2 with (fail)
  generalize ((w.alloc (.cells #[.int .u8 0, .int .u8 0, .int .u8 0, .int .u8 0, .int .u8 0, .int .u8 0, .int .u8 0, .int .u8 0, .int .u8 0, .int .u8 0, .int .u8 0, .int .u8 0, .int .u8 0, .int .u8 0, .int .u8 0, .int .u8 0, .int .u8 0, .int .u8 0, .int .u8 0, .int .u8 0, .int .u8 0, .int .u8 0, .int .u8 0, .int .u8 0, .int .u8 0, .int .u8 0, .int .u8 0, .int .u8 0, .int .u8 0, .int .u8 0, .int .u8 0, .int .u8 0] 46)).alloc (.cells #[.int .u8 0, .int .u8 0, .int .u8 0, .int .u8 0, .int .u8 0, .int .u8 0, .int .u8 0, .int .u8 0, .int .u8 0, .int .u8 0, .int .u8 0, .int .u8 0, .int .u8 0, .int .u8 0, .int .u8 0, .int .u8 0, .int .u8 0, .int .u8 0, .int .u8 0, .int .u8 0, .int .u8 0, .int .u8 0, .int .u8 0, .int .u8 0, .int .u8 0, .int .u8 0, .int .u8 0, .int .u8 0, .int .u8 0, .int .u8 0, .int .u8 0, .int .u8 0] 46)) = W1 at *
  by_cases h64 : n = 64
  · subst h64
    have HI := Lib.hid hI
    clear hI
    go_wp2
    go_loopw [5] (fun i wr => ∃ k : Nat, k ≤ 64 ∧ i = .int .i64 k ∧ ReadInv w s k wr) (fun i _ => 64 - (intOf i).toNat)
    case atStart => exact ⟨0, by omega, rfl, HI.out⟩
    case round =>
      clear HI
      obtain ⟨k, hk, rfl, hI⟩ := hrel
      by_cases hlt : k < 64
      · have hki : (k : Int) < 64 := by omega
        have hat := HAT.out k hlt
        have hcd := hI.d.cell (k / 2) (by rw [rdK_length]; omega)
        unfold by8 at hcd
        have HNX := Lib.hid (fun W (h : ReadInv w s k W) => @ReadInv.next w W s k h)
        obtain ⟨x, hx⟩ : ∃ x, (rdK s k).getD (k / 2) 0 = x := ⟨_, rfl⟩
        rw [hx] at hcd HNX
        have HBAD := Lib.hid (show hexV (s.getD k 0) < 0 → readD s = (List.replicate 32 0, 40) from readD_bad s k (by rw [HN.out]; exact hlt))
        obtain ⟨c, hc⟩ : ∃ c, s.getD k 0 = c := ⟨_, rfl⟩
        rw [hc] at hat HNX HBAD
        obtain ⟨q, hq⟩ : ∃ q, k / 2 = q := ⟨_, rfl⟩
        have hdv : Int.tdiv (k : Int) 2 = (q : Int) := by rw [Int.tdiv_eq_ediv_of_nonneg (by omega)]; omega
        have hq32 : (q : Int) < 32 := by omega
        have hqn : q < 32 := by omega
        rw [hq] at hcd HNX
        have hvb := hexV_bd c
        have HIX := Lib.hid (fun W => rdigit_c c W)
        have HIQ := Lib.hid (fun W m => rdigit_q c W m)
        have hxl := x.toNat_lt
        have HI := Lib.hid hI
        by_cases hv : 0 ≤ hexV c
        · obtain ⟨v, hvv⟩ : ∃ v : Nat, hexV c = (v : Int) := ⟨(hexV c).toNat, by omega⟩
          have HOR := Lib.hid (show 16 * (x.toNat : Int) % 256 + (v : Int) = ((stepD x c).toNat : Int) by rw [← plus_step x c v hvv]; omega)
          have HNX2 := Lib.hid (fun W h => HNX.out W h hv)
          rw [hvv] at hvb HIX HIQ
          have hv16 : (v : Int) ≤ 15 := hvb.2
          clear hvb hvv hv hI hx hc HNX HBAD
          go_wp2_with (go_at_call 49; (with_reducible refine (HIX.out _).mono ?_); rintro e w3 ⟨rfl, rfl⟩)
          refine wp_region_any (by kernel_rfl) ?_
          refine any_head_tail (C := fun w' => ∃ n, w' = wr.drewN n) 0 14 (by decide) (by rfl) (by kernel_rfl) ⟨1, rfl⟩ ?_
          simp only [List.drop_succ_cons, List.drop_zero, List.take_succ_cons, List.take_zero]
          repeat (go_big_quiet_step (with_reducible exact HIQ.out _ _))
          refine wpQuiet_nil ?_
          intro _ hw'
          obtain ⟨nq, hw''⟩ := hw'
          subst hw''
          rw [HOR.out]
          have HI2 := Lib.hid (HI.out.kept (below_drewN (Below.refl wr.heap.size wr) nq))
          have hfd := HI2.out.d.frozen q
          have hcd2 := HI2.out.d.cell q (by rw [rdK_length]; exact hqn)
          clear hcd hq
          generalize wr.drewN nq = W9 at *
          go_wp2
          go_roundw
          case rel => exact ⟨k + 1, by omega, rfl, HNX2.out _ HI2.out⟩
          case measure => simp [intOf]; omega
        · have hm1 : hexV c = -1 := by omega
          have hrd := HBAD.out (by omega)
          rw [hm1] at HIX
          have hst := hI.o.store zs (by rw [hzl]; simp)
          have HCL := Lib.hid (show RowB _ w.heap.size 46 zs from hI.o.setRow zs)
          have HBN := Lib.hid (show Below w.heap.size w (wr.setRow w.heap.size (u8v zs).toArray) from below_setRow hI.below (Nat.le_refl _) _)
          have HRD := Lib.hid (show (u8v (readD s).1).toArray = (u8v zs).toArray ∧ (readD s).2 = 40 by rw [hrd, HZS.out]; exact ⟨rfl, rfl⟩)
          clear hrd hI hx hc hq hv hm1 hvb HNX HBAD hcd HIQ
          go_wp2_with (first
            | (go_at_call 49; (with_reducible refine (HIX.out _).mono ?_); rintro e w3 ⟨rfl, rfl⟩)
            | (refine wpList_buildTo rfl 46 #[] rfl (some 19) rfl (u8v zs).toArray (by simpa using HBU.out) ?_))
          refine bodyPost_ret (results_cell_tmp rfl _ _ w.heap.size 46 (u8v zs).toArray (0, 0) _ (.int .i64 40) rfl rfl HCL.out Tryd.underlying46 rfl hmz) rfl ⟨?_, HBN.out⟩
          rw [HRD.out.1, HRD.out.2]
      · obtain rfl : k = 64 := by omega
        have HRD := Lib.hid (show readD s = (rdK s 64, 0) by
          rw [rdK_all s HN.out]
          exact readD_ok s HN.out (fun i hi => hI.good i (by rw [HN.out] at hi; exact hi)))
        have hlen := rdK_length s 64
        have hD := hI.d
        have hO := hI.o
        have hB := hI.below
        obtain ⟨L, hL⟩ : ∃ L, rdK s 64 = L := ⟨_, rfl⟩
        rw [hL] at hlen hD HRD
        clear hL hI
        have hm := size_dig L hlen
        have hszL : (u8v L).length = 32 := by rw [u8v_length]; exact hlen
        have hst := hO.store L (by rw [hlen]; simp)
        have HCL := Lib.hid (show RowB _ w.heap.size 46 L from hO.setRow L)
        have HBN := Lib.hid (show Below w.heap.size w (wr.setRow w.heap.size (u8v L).toArray) from below_setRow hB (Nat.le_refl _) _)
        have HA := Lib.hid hD
        clear hD hO hB
        rw [show ((64 : Nat) : Int) = 64 from rfl]
        go_wp2_with (first
          | (refine wpList_load_row rfl 46 (.tmp 4) rfl (w.heap.size + 1) rfl 46 (u8v L).toArray (0, 0) _ HA.out Tryd.underlying46 rfl hm ?_))
        refine bodyPost_ret (results_cell_tmp rfl _ _ w.heap.size 46 (u8v L).toArray (0, 0) _ (.int .i64 0) rfl rfl HCL.out Tryd.underlying46 rfl hm) rfl ⟨?_, HBN.out⟩
        rw [HRD.out]
  · have hrd := readD_len s (by rw [HN.out]; exact h64)
    have h64i : ¬ (n : Int) = 64 := by omega
    have hst := hI.o.store zs (by rw [hzl]; simp)
    have HCL := Lib.hid (show RowB _ w.heap.size 46 zs from hI.o.setRow zs)
    have HBN := Lib.hid (show Below w.heap.size w (W1.setRow w.heap.size (u8v zs).toArray) from below_setRow hI.below (Nat.le_refl _) _)
    have HRD := Lib.hid (show (u8v (readD s).1).toArray = (u8v zs).toArray ∧ (readD s).2 = 40 by rw [hrd, HZS.out]; exact ⟨rfl, rfl⟩)
    have HA := Lib.hid (show RowB W1 (w.heap.size + 1) 46 zs by rw [← HZS.out]; exact hI.d)
    clear hrd hI
    go_wp2_with (first
      | (refine wpList_load_row rfl 46 (.tmp 4) rfl (w.heap.size + 1) rfl 46 (u8v zs).toArray (0, 0) _ HA.out Tryd.underlying46 rfl hmz ?_))
    refine bodyPost_ret (results_cell_tmp rfl _ _ w.heap.size 46 (u8v zs).toArray (0, 0) _ (.int .i64 40) rfl rfl HCL.out Tryd.underlying46 rfl hmz) rfl ⟨?_, HBN.out⟩
    rw [HRD.out.1, HRD.out.2]

attribute [go_sem] run_index_string
set_option maxRecDepth 100000 in
set_option maxHeartbeats 1600000 in
theorem rtext_c (d : List UInt8) (hd : d.length = 32) {w : World} : Calls Tryd.prog 33 #[.agg (u8v d).toArray] w (TextPost (hexS d) w) := by
  obtain ⟨i0, hi, hz0, hz1, hz2⟩ := info_parts Tryd.info5
  have hB : RowB (w.alloc (.cells (u8v d).toArray 46)) w.heap.size 46 d := heap_alloc_new w _
  have hb0 := (Below.refl w.heap.size w).alloc (Nat.le_refl _) (.cells (u8v d).toArray 46)
  have HI5 := Lib.hid hi
  have HD := Lib.hid hB
  have HB0 := Lib.hid hb0
  clear hB hb0 hi
  go_enter Tryd.func33, Tryd.ntmps33
  go_upto_region 1 with (fail)
  generalize w.alloc (.cells (u8v d).toArray 46) = W1 at *
  go_wp2
  go_loopw [4, 5] (fun v i wr => ∃ k : Nat, k ≤ 32 ∧ i = .int .i64 k ∧ OwnB wr (w.heap.size + 1) 5 v (hexS (d.take k)) ∧ RowB wr w.heap.size 46 d ∧ Below w.heap.size w wr) (fun _ i _ => 32 - (intOf i).toNat)
  case atStart => exact ⟨0, by omega, rfl, ⟨rfl, .inl ⟨rfl, rfl⟩⟩, HD.out, HB0.out⟩
  case round =>
    clear HD HB0
    obtain ⟨k, hk, rfl, ho, hR, hB⟩ := hrel
    by_cases hlt : k < 32
    · have hki : (k : Int) < 32 := by omega
      have hcd := hR.cell k (by omega)
      obtain ⟨c, hc⟩ : ∃ c, d.getD k 0 = c := ⟨_, rfl⟩
      have hb8 : by8 d k = (c.toNat : Int) := by unfold by8; rw [hc]
      have hcl := c.toNat_lt
      have HT := Lib.hid (show hexS (d.take (k + 1)) = hexS (d.take k) ++ [hexD (c.toNat / 16), hexD (c.toNat % 16)] by rw [hexS_take d k (by omega), hc])
      have hlen : (hexS (d.take k)).length ≤ 64 := by rw [hexS_length, List.length_take]; omega
      obtain ⟨p, hp⟩ : ∃ p, hexS (d.take k) = p := ⟨_, rfl⟩
      obtain ⟨q1, hq1⟩ : ∃ q, c.toNat / 16 = q := ⟨_, rfl⟩
      obtain ⟨q2, hq2⟩ : ∃ q, c.toNat % 16 = q := ⟨_, rfl⟩
      obtain ⟨n, hn⟩ : ∃ n, c.toNat = n := ⟨_, rfl⟩
      rw [hp] at HT hlen ho
      rw [hb8, hn] at hcd
      rw [hn] at hcl hq1 hq2
      rw [hn, hq1, hq2] at HT
      have hd16 : (n : Int) / 16 = (q1 : Int) := by omega
      have hm16 : (n : Int) % 16 = (q2 : Int) := by omega
      have ht16 : Int.tdiv (n : Int) 16 = (q1 : Int) := by rw [Int.tdiv_eq_ediv_of_nonneg (by omega)]; omega
      have htm16 : Int.tmod (n : Int) 16 = (q2 : Int) := by rw [Int.tmod_eq_emod_of_nonneg (by omega)]; omega
      have hi1 := index_hex q1 (by omega)
      have hi2 := index_hex q2 (by omega)
      have hq1b : (q1 : Int) < 16 := by omega
      have hq2b : (q2 : Int) < 16 := by omega
      obtain ⟨x, hx⟩ : ∃ x, hexD q1 = x := ⟨_, rfl⟩
      obtain ⟨y, hy⟩ : ∃ y, hexD q2 = y := ⟨_, rfl⟩
      rw [hx] at hi1
      rw [hy] at hi2
      rw [hx, hy] at HT
      have HO := Lib.hid ho
      have HB := Lib.hid hB
      have HR := Lib.hid hR
      have HLE := Lib.hid hlen
      clear ho hB hR hb8 hn hc hp hq1 hq2 hx hy hlen
      go_wp2
      refine wp_region_any (by kernel_rfl) ?_
      refine wpAny_take (i := 0) (v := ?_) rfl (by kernel_rfl) (by kernel_rfl) (by kernel_rfl) (fun _ _ _ h => h) (Or.inl ⟨by rfl, ?_⟩) ?_
      case refine_2 => (intro w; go_simp; try with_reducible rfl)
      try simp only [Act.put, List.getElem_toArray, List.getElem_cons_zero, List.setIfInBounds_toArray, List.set_cons_zero, List.set_cons_succ]
      refine any_head_tail (C := fun w' => ∃ n, w' = wr.drewN n) 1 13 (by decide) (by rfl) (by kernel_rfl) ⟨1, rfl⟩ ?_
      simp only [List.drop_succ_cons, List.drop_zero, List.take_succ_cons, List.take_zero]
      repeat (go_big_quiet_step (fail))
      refine wpQuiet_nil ?_
      intro _ hw'
      obtain ⟨nq, hw''⟩ := hw'
      subst hw''
      have hal : Below wr.heap.size wr ((wr.drewN nq).alloc (.cells #[.int .u8 (x.toNat : Int), .int .u8 (y.toNat : Int)] 5)) := (below_drewN (Below.refl _ wr) nq).alloc (Nat.le_refl _) _
      have HAL := Lib.hid hal
      have HO2 := Lib.hid (HO.out.kept hal)
      have HR2 := Lib.hid (HR.out.kept hal)
      have HX := Lib.hid (two_bys (wr.drewN nq) x y)
      have hbs := HB.out.size
      have hrl := HR.out.lt
      have HZ := Lib.hid (show w.heap.size + 1 ≤ ((wr.drewN nq).alloc (.cells #[.int .u8 (x.toNat : Int), .int .u8 (y.toNat : Int)] 5)).heap.size from Nat.le_trans (by omega) hal.size)
      clear hal hcd hbs hrl
      go_wp2_with (at_builtin; refine wpList_append_bys rfl (.tmp 10) (.tmp 23) 22 rfl Tryd.underlying22 HI5.out hz0 hz1 hz2 rfl rfl HO2.out rfl HX.out (by have := HLE.out; omega) HZ.out ?_; intro v6 w6 ho6 hg6)
      go_roundw
      case rel =>
        refine ⟨k + 1, by omega, rfl, by rw [HT.out]; exact ho6, ?_, ?_⟩
        · exact (hg6.block _ HR2.out.lt (fun e => by have := (HO2.out.lt _ e.symm).1; omega)).trans HR2.out
        · exact (HB.out.trans (HAL.out.mono HB.out.size)).grown hg6 (by have := HZ.out; omega) (fun q hq => by have := (HO2.out.lt q hq).1; omega)
      case measure => simp [intOf]; omega
    · obtain rfl : k = 32 := by omega
      rw [List.take_of_length_le (by omega)] at ho
      obtain ⟨av, cap, rfl, hbys⟩ := ho.bys
      have hcv := conv_bys (P := Tryd.prog) hbys Tryd.underlying22 Tryd.underlying5 Tryd.underlying9
      have HB := Lib.hid hB
      clear hB ho hbys hR
      go_wp2
      go_ret
      exact ⟨rfl, HB.out⟩
end Go.Proofs.YticcmhgahbnboaaDoor
