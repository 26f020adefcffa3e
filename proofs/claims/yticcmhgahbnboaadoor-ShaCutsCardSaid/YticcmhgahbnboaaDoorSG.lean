/-
  The reference's words of a block.
-/
import Derived.Test.YticcmhgahbnboaaDoorSK
namespace Go.Proofs.YticcmhgahbnboaaDoor
open Go.RowKit Go
set_option linter.unusedVariables false

theorem OwnW.lt {w : World} {B : Nat} {v : Value} {l : List W32} (h : OwnW w B v l) : ∀ k, v.ownBlock = some k → B ≤ k ∧ k < w.heap.size := World.ownsRow.lt h
theorem OwnW.kept {w w' : World} {B : Nat} {v : Value} {l : List W32} (h : OwnW w B v l) (hb : Below w.heap.size w w') : OwnW w' B v l := by
  refine ⟨h.1, ?_⟩
  rcases h.2 with hn | ⟨g, cap, cur, rfl, hB, hg, rest⟩
  · exact .inl hn
  · exact .inr ⟨g, cap, cur, rfl, hB, by rw [hb.block g (Array.getElem?_eq_some_iff.1 hg).1]; exact hg, rest⟩
/-- A slice of words, wherever it lies. -/
theorem OwnW.adr {w : World} {B : Nat} {v : Value} {l : List W32} (h : OwnW w B v l) : ∃ a cap, v = .slice a l.length cap ∧ l.length ≤ cap ∧ cap ≤ maxLen ∧ (0 < l.length → ∃ g, a = some ⟨g, 0, none⟩ ∧ ∀ i, i < l.length → w.cell? ⟨g, i, none⟩ = some (.int .u32 (I (wAt l i)))) := by
  obtain ⟨h1, h2⟩ := h
  rcases h2 with ⟨rfl, hn⟩ | ⟨g, cap, cur, rfl, hb, hg, hnc, hcm, hcs, htake⟩
  · exact ⟨none, 0, by rw [hn], by omega, by unfold maxLen; omega, fun h => by omega⟩
  · refine ⟨_, cap, rfl, hnc, hcm, fun _ => ⟨g, rfl, fun i hi => ?_⟩⟩
    rw [cell_of_row w g i cur 43 (0, 0) hg]
    have h3 : (cur.toList.take (l.length * 1))[i]? = (u32v l)[i]? := by rw [htake]
    rw [List.getElem?_take, if_pos (by omega), u32v_get l i hi] at h3
    rw [← h3]; simp

/-- append(v, x), v of the call's own. -/
theorem wpList_append_word {w : World} {ops : Array Oper} {rest : List Oper} {o : Oper} {a : Act} {Q : Exit → Act → World → Prop} (hgd : o.guard = none) (s x : Operand)
    (ho : o.op = .call { callee := .builtin .append, args := #[s, x], argTypes := #[88, 88] })
    {base : Nat} {v : Value} {l : List W32} (hs : a.eval s = v) (hown : OwnW w base v l) {g : Nat} {y : W32} (hx : a.eval x = .slice (some ⟨g, 0, none⟩) 1 1) (hy : w.cell? ⟨g, 0, none⟩ = some (.int .u32 (I y)))
    (h63 : l.length ≤ 1000000) (hbase : base ≤ w.heap.size)
    (h : ∀ v' w', OwnW w' base v' (l ++ [y]) → w.grownBy w' v.ownBlock → wpList Tryd.prog ops Q rest (a.put o.dst v') w') : wpList Tryd.prog ops Q (o :: rest) a w := by
  obtain ⟨i, hi, hz, hsz, hby⟩ := info_parts Tryd.info43
  refine wpList_plain hgd fun K hK => ?_
  obtain ⟨v', w', hr, h2, h3, _⟩ := run_append_own (P := Tryd.prog) w base 88 o.type 43 i (.int .u32 0) 1 4 Tryd.underlying88 hi hz hsz hby rfl (by decide) v l.length (u32v l) hown ⟨g, 0, none⟩ 1 1 [.int .u32 (I y)] rfl
    (fun j u hu => by
      have hj : j = 0 := by have := (List.getElem?_eq_some_iff.1 hu).1; simpa using this
      subst hj
      simp at hu
      subst hu
      exact hy)
    (fun u hu => by simp at hu; subst hu; rfl) (by unfold maxLen; omega) (by omega) hbase
  unfold Oper.wp execOp
  simp only [ho, resolve, invoke, builtin, Sem.run_bind, Sem.run_pure, Result.andThen_ok, List.map_toArray, List.map_cons, List.map_nil, hs, hx, hr]
  refine hK _ _ (h v' w' ?_ h3)
  unfold OwnW
  rw [List.length_append, u32v_append]
  exact h2

theorem I_wd (c : UInt8) : (c.toNat : Int) = I (wd c) := by
  unfold I wd; rw [BitVec.toNat_ofNat]; have := c.toNat_lt; omega
theorem I_shl24 (x : W32) : I x * (16777216 : Int) % (4294967296 : Int) = I (x <<< 24) := by have := I_shl x 24; simpa using this
theorem I_shl16 (x : W32) : I x * (65536 : Int) % (4294967296 : Int) = I (x <<< 16) := by have := I_shl x 16; simpa using this
theorem wd_bd (c : UInt8) : 0 ≤ I (wd c) ∧ I (wd c) ≤ 255 := by rw [← I_wd]; have := c.toNat_lt; omega
theorem word4_val (b : List UInt8) (k : Nat) : bits .or .u32 (bits .or .u32 (bits .or .u32 (I (wd (byt b (4 * k))) * 16777216) (I (wd (byt b (4 * k + 1))) * 65536)) (I (wd (byt b (4 * k + 2))) * 256)) (I (wd (byt b (4 * k + 3)))) = I (word4 b k) := by
  have h0 := wd_bd (byt b (4 * k))
  have h1 := wd_bd (byt b (4 * k + 1))
  have h2 := wd_bd (byt b (4 * k + 2))
  have e0 := I_shl24 (wd (byt b (4 * k)))
  have e1 := I_shl16 (wd (byt b (4 * k + 1)))
  have e2 := I_shl8 (wd (byt b (4 * k + 2)))
  rw [Int.emod_eq_of_lt (by omega) (by omega)] at e0 e1 e2
  rw [e0, e1, e2, I_or, I_or, I_or]; rfl

attribute [local go_sem] I_xor I_and I_or I_not' I_add

set_option maxRecDepth 100000 in
set_option maxHeartbeats 3200000 in
theorem rwords_c (b : List UInt8) (hl : b.length = 64) {w : World} {a : Option Addr} {n cap : Nat} (hb : Bys w a n cap b) : Calls Tryd.prog 59 #[.slice a n cap] w (fun e w' => ∃ v, e = .returned v ∧ OwnW w' w.heap.size v (wordsS b 64) ∧ Below w.heap.size w w') := by
  obtain rfl : n = 64 := by rw [← hb.len]; exact hl
  obtain ⟨g, off, rfl, hcell⟩ : ∃ g off, a = some ⟨g, off, none⟩ ∧ ∀ i, i < 64 → w.cell? ⟨g, off + i, none⟩ = some (.int .u8 (by8 b i)) := by
    rcases hb.adr with h0 | h
    · have := hb.le; omega
    · exact h
  have hle := hb.le
  have hmx := hb.max
  have HCELL := Lib.hid hcell
  clear hcell hb
  go_enter Tryd.func59, Tryd.ntmps59
  go_wp2
  go_loopw [3, 4] (fun v i wr => ∃ k : Nat, k ≤ 64 ∧ i = .int .i64 k ∧ OwnW wr w.heap.size v (wordsS b k) ∧ Below w.heap.size w wr) (fun _ i _ => 64 - (intOf i).toNat)
  case atStart => exact ⟨0, by omega, rfl, ⟨rfl, .inl ⟨rfl, rfl⟩⟩, Below.refl _ _⟩
  case round =>
    obtain ⟨k, hk, rfl, hown, hbr⟩ := hrel
    by_cases hlt : k < 64
    · have hki : (k : Int) < 64 := by omega
      have HNX := Lib.hid (show wordsS b (k + 1) = wordsS b k ++ [nextW b (wordsS b k) k] from rfl)
      have hlen := wordsS_length b k
      by_cases h16 : k < 16
      · have hk16 : (k : Int) < 16 := by omega
        have hnw : nextW b (wordsS b k) k = word4 b k := by unfold nextW; rw [if_pos h16]
        have HV := Lib.hid (word4_val b k)
        rw [hnw] at HNX
        have hcr : ∀ i, i < 64 → wr.cell? ⟨g, off + i, none⟩ = some (.int .u8 (I (wd (byt b i)))) := fun i hi => by
          rw [hbr.cell (World.block_lt_of_cell? w _ (HCELL.out i hi)), HCELL.out i hi, ← I_wd]; rfl
        have c0 := hcr (4 * k) (by omega)
        have c1 := hcr (4 * k + 1) (by omega)
        have c2 := hcr (4 * k + 2) (by omega)
        have c3 := hcr (4 * k + 3) (by omega)
        have b0 := wd_bd (byt b (4 * k))
        have b1 := wd_bd (byt b (4 * k + 1))
        have b2 := wd_bd (byt b (4 * k + 2))
        have b3 := wd_bd (byt b (4 * k + 3))
        obtain ⟨x0, h0⟩ : ∃ x, wd (byt b (4 * k)) = x := ⟨_, rfl⟩
        obtain ⟨x1, h1⟩ : ∃ x, wd (byt b (4 * k + 1)) = x := ⟨_, rfl⟩
        obtain ⟨x2, h2⟩ : ∃ x, wd (byt b (4 * k + 2)) = x := ⟨_, rfl⟩
        obtain ⟨x3, h3⟩ : ∃ x, wd (byt b (4 * k + 3)) = x := ⟨_, rfl⟩
        rw [h0] at c0 b0 HV
        rw [h1] at c1 b1 HV
        rw [h2] at c2 b2 HV
        rw [h3] at c3 b3 HV
        obtain ⟨j, hj⟩ : ∃ j, 4 * k = j := ⟨_, rfl⟩
        have hji : 4 * (k : Int) = (j : Int) := by omega
        have hj60 : j + 3 < 64 := by omega
        rw [hj] at c0 c1 c2 c3
        have HO := Lib.hid hown
        have HB := Lib.hid hbr
        clear hcr hown hbr hnw h0 h1 h2 h3 hj
        go_wp2
        refine wp_region_any (by kernel_rfl) ?_
        refine wpAny_take (i := 0) (v := ?_) rfl (by kernel_rfl) (by kernel_rfl) (by kernel_rfl) (fun _ _ _ h => h) (Or.inl ⟨by rfl, ?_⟩) ?_
        case refine_2 => (intro w; go_simp; try with_reducible rfl)
        try simp only [Act.put, List.getElem_toArray, List.getElem_cons_zero, List.setIfInBounds_toArray, List.set_cons_zero, List.set_cons_succ]
        refine any_head_tail (C := fun w' => ∃ n, w' = wr.drewN n) 1 34 (by decide) (by rfl) (by kernel_rfl) ⟨1, rfl⟩ ?_
        simp only [List.drop_succ_cons, List.drop_zero, List.take_succ_cons, List.take_zero]
        repeat (go_big_quiet_step (fail))
        refine wpQuiet_nil ?_
        intro _ hw'
        obtain ⟨nq, hw''⟩ := hw'
        subst hw''
        rw [HV.out]
        obtain ⟨y, hy⟩ : ∃ y, word4 b k = y := ⟨_, rfl⟩
        rw [hy] at HNX ⊢
        have hal : Below wr.heap.size wr ((wr.drewN nq).alloc (.cells #[.int .u32 (I y)] 43)) := (below_drewN (Below.refl _ wr) nq).alloc (Nat.le_refl _) _
        have HY := Lib.hid (show ((wr.drewN nq).alloc (.cells #[.int .u32 (I y)] 43)).cell? ⟨wr.heap.size, 0, none⟩ = some (.int .u32 (I y)) from cell_of_row _ _ 0 _ _ _ (heap_alloc_new (wr.drewN nq) _))
        have HO2 := Lib.hid (HO.out.kept hal)
        have HAL := Lib.hid hal
        have HZ := Lib.hid (show w.heap.size ≤ ((wr.drewN nq).alloc (.cells #[.int .u32 (I y)] 43)).heap.size from Nat.le_trans HB.out.size hal.size)
        clear hal hy HV c0 c1 c2 c3
        go_wp2_with (refine wpList_append_word rfl (.tmp 13) (.tmp 47) rfl rfl HO2.out rfl HY.out (by omega) HZ.out ?_; intro v2 w2 ho2 hg2)
        go_roundw
        case rel =>
          refine ⟨k + 1, by omega, rfl, by rw [HNX.out]; exact ho2, ?_⟩
          exact (HB.out.trans (HAL.out.mono HB.out.size)).grown hg2 HZ.out (fun q hq => (HO2.out.lt q hq).1)
        case measure => simp [intOf]; omega
      · have hk16 : ¬ (k : Int) < 16 := by omega
        obtain ⟨x15, h15⟩ : ∃ x, wAt (wordsS b k) (k - 15) = x := ⟨_, rfl⟩
        obtain ⟨x2, h2⟩ : ∃ x, wAt (wordsS b k) (k - 2) = x := ⟨_, rfl⟩
        obtain ⟨x16, hx16⟩ : ∃ x, wAt (wordsS b k) (k - 16) = x := ⟨_, rfl⟩
        obtain ⟨x7, h7⟩ : ∃ x, wAt (wordsS b k) (k - 7) = x := ⟨_, rfl⟩
        obtain ⟨y, hy⟩ : ∃ y, nextW b (wordsS b k) k = y := ⟨_, rfl⟩
        have hval : ((I x16 + bits .xor .u32 (I (rotS x15 7 ^^^ rotS x15 18)) (I x15 / 8) + I x7) % 4294967296 + bits .xor .u32 (I (rotS x2 17 ^^^ rotS x2 19)) (I x2 / 1024)) % 4294967296 = I y := by
          rw [Int.emod_add_emod, ← hy, I_shr3, I_shr10, I_xor, I_xor, I_add4]
          unfold nextW
          rw [if_neg (by omega), hx16, h15, h7, h2]; rfl
        rw [hy] at HNX
        obtain ⟨a', cap', rfl, hcl, hcm, hadr⟩ := hown.adr
        obtain ⟨gg, rfl, hcell⟩ := hadr (by omega)
        rw [hlen] at hcell hcl hown
        have c15 := hcell (k - 15) (by omega)
        have c2 := hcell (k - 2) (by omega)
        have c16 := hcell (k - 16) (by omega)
        have c7 := hcell (k - 7) (by omega)
        rw [h15] at c15
        rw [h2] at c2
        rw [hx16] at c16
        rw [h7] at c7
        have e15 : (k : Int) - 15 = ((k - 15 : Nat) : Int) := by omega
        have e2 : (k : Int) - 2 = ((k - 2 : Nat) : Int) := by omega
        have e16 : (k : Int) - 16 = ((k - 16 : Nat) : Int) := by omega
        have e7 : (k : Int) - 7 = ((k - 7 : Nat) : Int) := by omega
        obtain ⟨i15, j15⟩ : ∃ i, k - 15 = i := ⟨_, rfl⟩
        obtain ⟨i2, j2⟩ : ∃ i, k - 2 = i := ⟨_, rfl⟩
        obtain ⟨i16, j16⟩ : ∃ i, k - 16 = i := ⟨_, rfl⟩
        obtain ⟨i7, j7⟩ : ∃ i, k - 7 = i := ⟨_, rfl⟩
        rw [j15] at e15 c15
        rw [j2] at e2 c2
        rw [j16] at e16 c16
        rw [j7] at e7 c7
        have l15 : i15 < k := by omega
        have l2 : i2 < k := by omega
        have l16 : i16 < k := by omega
        have l7 : i7 < k := by omega
        have hcm2 : cap' ≤ 9223372036854775807 := by unfold maxLen at hcm; omega
        have HO := Lib.hid hown
        have HB := Lib.hid hbr
        have HVL := Lib.hid hval
        have HLEN := Lib.hid hlen
        rw [hlen]
        clear hval hown hbr hcell hadr hy h15 h2 hx16 h7 j15 j2 j16 j7 hlen hcm
        go_wp2
        refine wp_region_any (by kernel_rfl) ?_
        refine wpAny_take (i := 0) (v := ?_) rfl (by kernel_rfl) (by kernel_rfl) (by kernel_rfl) (fun _ _ _ h => h) (Or.inl ⟨by rfl, ?_⟩) ?_
        case refine_2 => (intro w; go_simp; try with_reducible rfl)
        try simp only [Act.put, List.getElem_toArray, List.getElem_cons_zero, List.setIfInBounds_toArray, List.set_cons_zero, List.set_cons_succ]
        refine any_head_tail (C := fun w' => ∃ n, w' = wr.drewN n) 1 30 (by decide) (by rfl) (by kernel_rfl) ⟨1, rfl⟩ ?_
        simp only [List.drop_succ_cons, List.drop_zero, List.take_succ_cons, List.take_zero]
        repeat (go_big_quiet_step (first  | with_reducible exact turn_q18 _ _ _ | with_reducible exact turn_q17 _ _ _ | with_reducible exact turn_q19 _ _ _ | with_reducible exact rturn_q7 _ _ _ | with_reducible exact rturn_q18 _ _ _ | with_reducible exact rturn_q17 _ _ _ | with_reducible exact rturn_q19 _ _ _))
        refine wpQuiet_nil ?_
        intro _ hw'
        obtain ⟨nq, hw''⟩ := hw'
        subst hw''
        rw [HVL.out]
        have hal : Below wr.heap.size wr ((wr.drewN nq).alloc (.cells #[.int .u32 (I y)] 43)) := (below_drewN (Below.refl _ wr) nq).alloc (Nat.le_refl _) _
        have HY := Lib.hid (show ((wr.drewN nq).alloc (.cells #[.int .u32 (I y)] 43)).cell? ⟨wr.heap.size, 0, none⟩ = some (.int .u32 (I y)) from cell_of_row _ _ 0 _ _ _ (heap_alloc_new (wr.drewN nq) _))
        have HO2 := Lib.hid (HO.out.kept hal)
        have HAL := Lib.hid hal
        have HZ := Lib.hid (show w.heap.size ≤ ((wr.drewN nq).alloc (.cells #[.int .u32 (I y)] 43)).heap.size from Nat.le_trans HB.out.size hal.size)
        clear hal c15 c2 c16 c7
        go_wp2_with (refine wpList_append_word rfl (.tmp 59) (.tmp 89) rfl rfl HO2.out rfl HY.out (by have := HLEN.out; omega) HZ.out ?_; intro v2 w2 ho2 hg2)
        go_roundw
        case rel =>
          refine ⟨k + 1, by omega, rfl, by rw [HNX.out]; exact ho2, ?_⟩
          exact (HB.out.trans (HAL.out.mono HB.out.size)).grown hg2 HZ.out (fun q hq => (HO2.out.lt q hq).1)
        case measure => simp [intOf]; omega
    · obtain rfl : k = 64 := by omega
      have HO := Lib.hid hown
      have HB := Lib.hid hbr
      clear hown hbr
      go_wp2
      go_ret
      exact ⟨_, rfl, HO.out, HB.out⟩
end Go.Proofs.YticcmhgahbnboaaDoor
