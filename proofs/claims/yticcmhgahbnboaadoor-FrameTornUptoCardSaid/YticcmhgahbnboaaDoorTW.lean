/-
  THE WALK over FrameTorn.
-/
import Derived.Test.YticcmhgahbnboaaDoorRO
import Derived.Test.YticcmhgahbnboaaDoorFT
import Derived.Test.YticcmhgahbnboaaDoorFL
namespace Go.Proofs.YticcmhgahbnboaaDoor
open Go.RowKit Go
set_option linter.unusedVariables false

theorem frames_length (bs : List (List UInt8)) (hb : ∀ b ∈ bs, b.length ≤ 1048576) : (framesS bs).length ≤ lenSum bs + 13 * bs.length := by
  induction bs with
  | nil => simp [framesS, lenSum]
  | cons b bs ih =>
    have := ih (fun x hx => hb x (by simp [hx]))
    have hw := wrapS_length (hb b (by simp))
    obtain ⟨q, _, hl, q1, q8⟩ := headS_size b.length (hb b (by simp))
    rw [framesS_cons, List.length_append]
    simp only [lenSum, List.map_cons, List.sum_cons, List.length_cons] at this ⊢
    omega
theorem lenSum_take (bs : List (List UInt8)) (k : Nat) (h : k < bs.length) : lenSum (bs.take (k + 1)) = lenSum (bs.take k) + (bs.getD k []).length := by
  rw [List.take_succ_eq_append_getElem h, lenSum_snoc]; simp [List.getD, h]
theorem framesS_take (bs : List (List UInt8)) (k : Nat) (h : k < bs.length) : framesS (bs.take (k + 1)) = framesS (bs.take k) ++ wrapS (bs.getD k []) := by
  rw [List.take_succ_eq_append_getElem h, framesS_snoc]; simp [List.getD, h]
theorem lenSum_mem (bs : List (List UInt8)) (b : List UInt8) (h : b ∈ bs) : b.length ≤ lenSum bs := by
  induction bs with
  | nil => cases h
  | cons c cs ih =>
    simp only [lenSum, List.map_cons, List.sum_cons] at ih ⊢
    rcases List.mem_cons.1 h with rfl | h
    · omega
    · have := ih h; omega
theorem lenSum_take_le (bs : List (List UInt8)) (k : Nat) : lenSum (bs.take k) ≤ lenSum bs := by
  have h : lenSum bs = lenSum (bs.take k) + lenSum (bs.drop k) := by
    unfold lenSum
    rw [← List.sum_append, ← List.map_append, List.take_append_drop]
  omega

/-- Two rows of unlike elements lie apart. -/
theorem rows_apart {W : World} {B B' e e' s s' k k' : Nat} {v v' : Value} {xs xs' : List Value} (h : W.ownsRow B e s v k xs) (h' : W.ownsRow B' e' s' v' k' xs') (he : e ≠ e') : v.ownBlock = none ∨ v.ownBlock ≠ v'.ownBlock := by
  rcases h.2 with ⟨rfl, _⟩ | ⟨g, cap, cur, rfl, _, hg, _⟩
  · exact .inl rfl
  · right
    rcases h'.2 with ⟨rfl, _⟩ | ⟨g', cap', cur', rfl, _, hg', _⟩
    · simp [Value.ownBlock]
    · intro hgg
      obtain rfl : g = g' := by simpa [Value.ownBlock] using hgg
      rw [hg] at hg'
      cases hg'
      exact he rfl

theorem Rws.take {w : World} {a : Option Addr} {n cap : Nat} {ls : List (List UInt8)} (h : Rws w a n cap ls) {q : Nat} (hq : q ≤ n) : Rws w a q cap (ls.take q) := by
  refine ⟨by rw [List.length_take, h.len]; omega, by have := h.le; omega, h.max, ?_⟩
  rcases h.adr with h4 | ⟨b, off, rfl, hc⟩
  · exact .inl h4
  · refine .inr ⟨b, off, rfl, fun i hi => ?_⟩
    obtain ⟨ai, ni, ci, h1, h2⟩ := hc i (by omega)
    refine ⟨ai, ni, ci, h1, ?_⟩
    have : (ls.take q).getD i [] = ls.getD i [] := by simp [List.getD, hi]
    rw [this]; exact h2

def endsV (bs : List (List UInt8)) (k : Nat) : List Value := (List.range (k + 1)).map fun j => Value.int .i64 (endS bs j : Int)
theorem endsV_zero (bs : List (List UInt8)) : endsV bs 0 = [Value.int .i64 0] := by simp [endsV, endS_zero]
theorem endsV_succ (bs : List (List UInt8)) (k : Nat) : endsV bs (k + 1) = endsV bs k ++ [Value.int .i64 (endS bs (k + 1) : Int)] := by
  unfold endsV; rw [List.range_succ, List.map_append]; rfl
theorem endsV_get (bs : List (List UInt8)) (k j : Nat) (h : j ≤ k) : (endsV bs k)[j]? = some (Value.int .i64 (endS bs j : Int)) := by
  unfold endsV; rw [List.getElem?_map, List.getElem?_range (by omega)]; rfl
theorem Tryd.info3 : (Tryd.prog.info? 3).map (fun i => (i.zero, i.size, i.bytes)) = some (some (.int .i64 0), 1, 8) := by kernel_rfl

set_option maxRecDepth 100000 in
set_option maxHeartbeats 3200000 in
theorem torn_walk {w : World} (hT : TabW w) {a : Option Addr} {n cap : Nat} {bs : List (List UInt8)} (ha : Rws w a n cap bs) (hsum : lenSum bs + n ≤ 1048576) (cut : Int) (hc0 : -9223372036854775808 ≤ cut) (hc1 : cut ≤ 9223372036854775807) :
    Calls Tryd.prog 7 #[.slice a n cap, .int .i64 cut] w fun e w' => e = .returned (.bool true) ∧ Below w.heap.size w w' := by
  have hlen := ha.len
  have hle := ha.le
  have hmax := ha.max
  have HLEN := Lib.hid hlen
  clear hlen
  go_enter Tryd.func7, Tryd.ntmps7
  go_wp2
  go_loop [5, 18] (fun s i => ∃ k : Nat, k ≤ n ∧ i = .int .i64 k ∧ s = .int .i64 (10 * (k : Int) + (lenSum (bs.take k) : Int))) (fun _ i => n - (intOf i).toNat)
  case atStart => exact ⟨0, by omega, rfl, by simp [lenSum]⟩
  case round =>
    obtain ⟨k, hk, rfl, rfl⟩ := hrel
    by_cases hlt : k < n
    · obtain ⟨ba, oa, rfl, hca⟩ : ∃ b off, a = some ⟨b, off, none⟩ ∧ ∀ i, i < n → ∃ ai ni ci, w.cell? ⟨b, off + i, none⟩ = some (.slice ai ni ci) ∧ Bys w ai ni ci (bs.getD i []) := by
        rcases ha.adr with h | h
        · omega
        · exact h
      obtain ⟨ai, ni, ci, h1, h2⟩ := hca k hlt
      have hni := h2.len
      have hst := lenSum_take bs k (by rw [HLEN.out]; exact hlt)
      rw [hni] at hst
      have hle1 := lenSum_take_le bs (k + 1)
      have HST := Lib.hid hst
      have hb1 : lenSum (bs.take k) + ni ≤ 1048576 := by omega
      have hki : (k : Int) < (n : Int) := by omega
      clear hca hst hni hle1
      go_wp2
      go_round
      case rel => exact ⟨k + 1, by omega, by go_num, by rw [HST.out]; congr 1; omega⟩
      case measure => simp [intOf]; omega
    · obtain rfl : k = n := by omega
      have hall : bs.take k = bs := List.take_of_length_le (by rw [HLEN.out]; exact Nat.le_refl _)
      rw [hall]
      clear hall
      by_cases h20 : 20000 < 10 * k + lenSum bs
      · have hd : decide ((20000 : Int) < 10 * (k : Int) + (lenSum bs : Int)) = true := by simp; omega
        go_wp2_with (go_at_call 13; refine (lives_c hT).mono ?_; rintro e w' ⟨rfl, hbl⟩)
        go_ret
        exact ⟨rfl, hbl⟩
      · have hd : decide ((20000 : Int) < 10 * (k : Int) + (lenSum bs : Int)) = false := by simp; omega
        go_wp2
        have hbl : ∀ b ∈ bs, b.length ≤ 20000 := fun b hb => by have := lenSum_mem bs b hb; omega
        have hbl2 : ∀ b ∈ bs, b.length ≤ 1048576 := fun b hb => by have := hbl b hb; omega
        obtain ⟨i0, hi, hz0, hz1, hz2⟩ := info_parts Tryd.info5
        obtain ⟨i3, gi, gz0, gz1, gz2⟩ := info_parts Tryd.info3
        have hal : Below w.heap.size w (w.alloc (.cells #[.int .i64 0] 3)) := (Below.refl _ _).alloc (Nat.le_refl _) _
        have hends0 : (w.alloc (.cells #[.int .i64 0] 3)).ownsRow w.heap.size 3 1 (.slice (some ⟨w.heap.size, 0, none⟩) 1 1) 1 (endsV bs 0) := by
          rw [endsV_zero]
          exact ⟨by simp, .inr ⟨w.heap.size, 1, #[.int .i64 0], rfl, Nat.le_refl _, heap_alloc_new w _, Nat.le_refl _, by unfold maxLen; omega, rfl, rfl⟩⟩
        have HBL := Lib.hid hbl
        have HBL2 := Lib.hid hbl2
        have hn2 : k ≤ 2000 ∧ lenSum bs ≤ 20000 := by omega
        clear hbl hbl2 hd h20 hlt
        go_loopw [8, 9, 34] (fun va ve i wr => ∃ j : Nat, j ≤ k ∧ i = .int .i64 j ∧ OwnB wr w.heap.size 5 va (framesS (bs.take j)) ∧ wr.ownsRow w.heap.size 3 1 ve (j + 1) (endsV bs j) ∧ Below w.heap.size w wr) (fun _ _ i _ => k - (intOf i).toNat)
        case atStart => exact ⟨0, by omega, rfl, OwnB.nil _ _ _, hends0, hal⟩
        case round =>
          obtain ⟨j, hj, rfl, hoa, hoe, hbel⟩ := hrel
          clear hends0 hal
          have hjl : (framesS (bs.take j)).length ≤ 46000 := by
            have h1 := frames_length (bs.take j) (fun b hb => HBL2.out b (List.mem_of_mem_take hb))
            have h2 := lenSum_take_le bs j
            have h3 : (bs.take j).length ≤ j := by rw [List.length_take]; omega
            omega
          by_cases hlt : j < k
          · obtain ⟨ba, oa, rfl, hca⟩ : ∃ b off, a = some ⟨b, off, none⟩ ∧ ∀ i, i < k → ∃ ai ni ci, w.cell? ⟨b, off + i, none⟩ = some (.slice ai ni ci) ∧ Bys w ai ni ci (bs.getD i []) := by
              rcases ha.adr with h | h
              · omega
              · exact h
            obtain ⟨ai, ni, ci, h1, h2⟩ := hca j hlt
            have hc1 : wr.cell? ⟨ba, oa + j, none⟩ = some (.slice ai ni ci) := by rw [hbel.cell (World.block_lt_of_cell? w _ h1)]; exact h1
            have hb2 := h2.below hbel
            have hni : ni ≤ 20000 := by
              rw [← h2.len]
              have hm : bs.getD j [] ∈ bs := by rw [List.getD_eq_getElem?_getD, List.getElem?_eq_getElem (by rw [HLEN.out]; exact hlt)]; exact List.getElem_mem _
              exact HBL.out _ hm
            have HFT := Lib.hid (framesS_take bs j (by rw [HLEN.out]; exact hlt))
            obtain ⟨x, hx⟩ : ∃ x, bs.getD j [] = x := ⟨_, rfl⟩
            rw [hx] at hb2 HFT
            obtain ⟨fj, hfj⟩ : ∃ fj, framesS (bs.take j) = fj := ⟨_, rfl⟩
            rw [hfj] at hoa hjl HFT
            have hxl : x.length = ni := hb2.len
            have hwx : (wrapS x).length ≤ 20100 := by
              have h4 := wrapS_length (l := x) (by omega)
              obtain ⟨q, _, hl, q1, q8⟩ := headS_size x.length (by omega)
              omega
            have HF : Hid ((fj ++ wrapS x).length = endS bs (j + 1)) := Lib.hid (by rw [← HFT.out]; rfl)
            have hki : (j : Int) < (k : Int) := by omega
            clear hca h1 h2 hx hfj hxl
            go_wp2_with (first
              | (go_at_call 14; refine (wrap_c hb2 (by omega) (hT.below hbel)).mono ?_; rintro e w1 ⟨v1, rfl, ho1, hbv1⟩; obtain ⟨a1, c1, hv1, hb1⟩ := ho1.bys; subst hv1; have hoa1 := hoa.kept hbv1; have hoe1 := ownsRow_below hoe hbv1; have hbw1 := hbel.trans (hbv1.mono hbel.size))
              | (at_builtin; refine wpList_append_bys rfl (.tmp 38) (.tmp 40) 22 rfl Tryd.underlying22 hi hz0 hz1 hz2 rfl rfl hoa1 rfl hb1 (by omega) hbw1.size ?_; intro v2 w2 ho2 hg2; obtain ⟨a2, c2, hv2, hb3⟩ := ho2.bys; rw [HF.out] at hv2 hb3; subst hv2; have hoe2 := hoe1.kept hg2 (rows_apart hoe1 hoa1 (by decide)); have hbw2 := hbw1.grown hg2 hbw1.size (fun q hq => (hoa1.lt q hq).1))
              | (at_builtin; refine wpList_append_own _ rfl _ _ 40 rfl w.heap.size 3 i3 (.int .i64 0) 1 8 Tryd.underlying40 gi gz0 gz1 gz2 rfl (by decide) _ _ _ rfl (hoe2.alloc _) ⟨w2.heap.size, 0, none⟩ 1 1 [.int .i64 (endS bs (j + 1) : Int)] rfl rfl (cell_one_new _ _ _) (by simp [Value.oneCell']) (by unfold maxLen; omega) (by omega) (by have := hbw2.size; simp; omega) ?_; intro v3 w3 hown3 hg3 _))
            go_roundw
            case rel =>
              have ho2' : OwnB (w2.alloc (.cells #[.int .i64 (endS bs (j + 1) : Int)] 3)) w.heap.size 5 _ _ := World.ownsRow.alloc ho2 _
              refine ⟨j + 1, by omega, by go_num, ?_, ?_, (hbw2.alloc hbw2.size _).grown hg3 (by have := hbw2.size; simp; omega) (fun q hq => (World.ownsRow.lt hoe2 q hq).1)⟩
              · rw [HFT.out]
                have h5 := World.ownsRow.kept ho2' hg3 (rows_apart ho2' (hoe2.alloc _) (by decide))
                exact h5
              · rw [endsV_succ]; exact hown3
            case measure => simp [intOf]; omega
          · obtain rfl : j = k := by omega
            have hall : bs.take j = bs := List.take_of_length_le (by rw [HLEN.out]; exact Nat.le_refl _)
            rw [hall] at hoa hjl
            obtain ⟨av, cv, hva, hba⟩ := hoa.bys
            subst hva
            obtain ⟨ge, ce, hve⟩ := ownsRow_succ hoe
            subst hve
            obtain ⟨T, hTl⟩ : ∃ T, (framesS bs).length = T := ⟨_, rfl⟩
            rw [hTl] at hba hjl
            simp only [hTl]
            obtain ⟨q, hqm, hqe⟩ : ∃ q : Nat, q ≤ T ∧ wrap64 ((IntKind.u64.wrap cut).tmod ((T : Int) + 1)) = (q : Int) := by
              rw [IntKind.wrap_u64, IntWalk.rem_in _ _ (Int.emod_nonneg _ (by omega))]
              have h1 := Int.emod_nonneg (cut % 18446744073709551616) (show (T : Int) + 1 ≠ 0 by omega)
              have h2 := Int.emod_lt_of_pos (cut % 18446744073709551616) (show 0 < (T : Int) + 1 by omega)
              refine ⟨(cut % 18446744073709551616 % ((T : Int) + 1)).toNat, by omega, ?_⟩
              rw [IntWalk.wrap64_in _ (by omega)]; omega
            obtain ⟨m, hm, hq1, hq2, hrs⟩ := rowsS_torn bs HBL2.out q (by omega)
            rw [HLEN.out] at hm hq2
            have hcv : T ≤ cv ∧ cv ≤ 9223372036854775807 := ⟨hba.le, hba.max⟩
            have hqc : (q : Int) ≤ (cv : Int) ∧ q ≤ cv := by omega
            have htk := hba.take hqm
            have hmc : (m : Int) ≤ (cap : Int) ∧ m ≤ cap := by omega
            obtain ⟨er, her⟩ : ∃ er : Int, (if endS bs m = q then 0 else 10) = er := ⟨_, rfl⟩
            have hrc : Calls Tryd.prog 18 #[.slice av q cv] wr fun e w' => ∃ a4 c4, e = .returned (.tuple #[.slice a4 m c4, .int .i64 (endS bs m : Int), .int .i64 er]) ∧ Rws w' a4 m c4 (bs.take m) ∧ Below wr.heap.size wr w' := by
              refine (rows_c htk (by omega)).mono ?_
              rintro e w' ⟨v, rfl, ho, hb⟩
              obtain ⟨a4, c4, rfl, hr⟩ := ho.rws
              rw [hrs, her]
              rw [hrs] at hr
              have hml : (bs.take m).length = m := by rw [List.length_take, HLEN.out]; omega
              simp only [hml] at hr ⊢
              exact ⟨a4, c4, rfl, hr, hb⟩
            have hsm : ∀ (W : World) a4 c4, Rws W a4 m c4 (bs.take m) → Below w.heap.size w W → Calls Tryd.prog 20 #[.slice a4 m c4, .slice a m cap] W (BoolPost true W) := by
              intro W a4 c4 h hb
              have := same_c h ((ha.below hb).take hm)
              simpa using this
            have hc1 := hoe.cellAt m (by omega)
            rw [endsV_get bs j m hm] at hc1
            have hgl := World.block_lt_of_cell? wr _ hc1
            have HC1 := Lib.hid hc1
            have HRC := Lib.hid hrc
            have HSM := Lib.hid hsm
            have HTL := Lib.hid hTl
            have hd1 : decide ((j : Int) < (m : Int)) = false := by simp; omega
            have hd1' : decide (j < m) = false := by simp; omega
            have hmj : (m : Int) < (j : Int) + 1 ∧ 0 ≤ (m : Int) ∧ m < j + 1 := by omega
            have HQ2 := Lib.hid hq2
            have HQ1 := Lib.hid hq1
            have HER := Lib.hid her
            have hem : (endS bs m : Int) ≤ 46000 := by omega
            obtain ⟨em, hemd⟩ : ∃ em : Nat, endS bs m = em := ⟨_, rfl⟩
            have HEM := Lib.hid hemd
            have hc1' : wr.cell? ⟨ge, m, none⟩ = some (.int .i64 (em : Int)) := by rw [← HEM.out]; exact HC1.out
            clear hc1 hrc hsm hTl hq1 hq2 her htk hrs
            rw [HEM.out] at HRC HER hem
            clear HC1 hemd
            have hkeep : ∀ W, Below wr.heap.size wr W → W.cell? ⟨ge, m, none⟩ = some (.int .i64 (em : Int)) := fun W h => (h.cell hgl).trans hc1'
            have HKEEP := Lib.hid hkeep
            clear hkeep
            by_cases hmlt : m < j
            · have hc2 := hoe.cellAt (m + 1) (by omega)
              rw [endsV_get bs j (m + 1) (by omega)] at hc2
              obtain ⟨em2, hem2⟩ : ∃ em2 : Nat, endS bs (m + 1) = em2 := ⟨_, rfl⟩
              have hq3 := HQ2.out hmlt
              rw [hem2] at hc2 hq3
              have hd2 : decide ((m : Int) < (j : Int)) = true := by simp; omega
              have hd2' : decide (m < j) = true := by simp; omega
              have hd3 : decide ((em2 : Int) ≤ (q : Int)) = false := by simp; omega
              have hd3' : decide (em2 ≤ q) = false := by simp; omega
              have hmj2 : (m : Int) + 1 < (j : Int) + 1 := by omega
              have HKEEP2 := Lib.hid (fun W (h : Below wr.heap.size wr W) => (h.cell (p := ⟨ge, m + 1, none⟩) hgl).trans hc2)
              clear hc2 hq3 hem2
              by_cases hE : em = q
              · obtain rfl : er = 0 := by rw [← HER.out, if_pos hE]
                have hEb : ((em : Int) == (q : Int)) = true := by rw [hE]; simp
                have hEb' : (em == q) = true := by rw [hE]; simp
                clear hE hoe
                go_wp2_with (first
                  | (go_at_call 18; refine (HRC.out).mono ?_; rintro e w4 ⟨a4, c4, rfl, hr4, hb4⟩; have hw4 := hbel.trans (hb4.mono hbel.size); have k4 := HKEEP.out _ hb4)
                  | (go_at_call 20; refine (HSM.out _ _ _ hr4 hw4).mono ?_; rintro e w5 ⟨rfl, hb5⟩; have hw5 := hw4.trans (hb5.mono hw4.size); have hb45 := hb4.trans (hb5.mono hb4.size); have k5 := HKEEP.out _ hb45; have k6 := HKEEP2.out _ hb45)
                  | (go_at_call 13; refine (lives_c (hT.below hw5)).mono ?_; rintro e w6 ⟨rfl, hb6⟩))
                go_ret
                exact ⟨rfl, hw5.trans (hb6.mono hw5.size)⟩
              · obtain rfl : er = 10 := by rw [← HER.out, if_neg hE]
                have hEb : ((em : Int) == (q : Int)) = false := by rw [beq_eq_false_iff_ne]; omega
                have hEb' : (em == q) = false := by rw [beq_eq_false_iff_ne]; omega
                clear hE hoe
                go_wp2_with (first
                  | (go_at_call 18; refine (HRC.out).mono ?_; rintro e w4 ⟨a4, c4, rfl, hr4, hb4⟩; have hw4 := hbel.trans (hb4.mono hbel.size); have k4 := HKEEP.out _ hb4)
                  | (go_at_call 20; refine (HSM.out _ _ _ hr4 hw4).mono ?_; rintro e w5 ⟨rfl, hb5⟩; have hw5 := hw4.trans (hb5.mono hw4.size); have hb45 := hb4.trans (hb5.mono hb4.size); have k5 := HKEEP.out _ hb45; have k6 := HKEEP2.out _ hb45)
                  | (go_at_call 13; refine (lives_c (hT.below hw5)).mono ?_; rintro e w6 ⟨rfl, hb6⟩))
                go_ret
                exact ⟨rfl, hw5.trans (hb6.mono hw5.size)⟩
            · have hd2 : decide ((m : Int) < (j : Int)) = false := by simp; omega
              have hd2' : decide (m < j) = false := by simp; omega
              by_cases hE : em = q
              · obtain rfl : er = 0 := by rw [← HER.out, if_pos hE]
                have hEb : ((em : Int) == (q : Int)) = true := by rw [hE]; simp
                have hEb' : (em == q) = true := by rw [hE]; simp
                clear hE hoe hmlt
                go_wp2_with (first
                  | (go_at_call 18; refine (HRC.out).mono ?_; rintro e w4 ⟨a4, c4, rfl, hr4, hb4⟩; have hw4 := hbel.trans (hb4.mono hbel.size); have k4 := HKEEP.out _ hb4)
                  | (go_at_call 20; refine (HSM.out _ _ _ hr4 hw4).mono ?_; rintro e w5 ⟨rfl, hb5⟩; have hw5 := hw4.trans (hb5.mono hw4.size); have hb45 := hb4.trans (hb5.mono hb4.size); have k5 := HKEEP.out _ hb45)
                  | (go_at_call 13; refine (lives_c (hT.below hw5)).mono ?_; rintro e w6 ⟨rfl, hb6⟩))
                go_ret
                exact ⟨rfl, hw5.trans (hb6.mono hw5.size)⟩
              · obtain rfl : er = 10 := by rw [← HER.out, if_neg hE]
                have hEb : ((em : Int) == (q : Int)) = false := by rw [beq_eq_false_iff_ne]; omega
                have hEb' : (em == q) = false := by rw [beq_eq_false_iff_ne]; omega
                clear hE hoe hmlt
                go_wp2_with (first
                  | (go_at_call 18; refine (HRC.out).mono ?_; rintro e w4 ⟨a4, c4, rfl, hr4, hb4⟩; have hw4 := hbel.trans (hb4.mono hbel.size); have k4 := HKEEP.out _ hb4)
                  | (go_at_call 20; refine (HSM.out _ _ _ hr4 hw4).mono ?_; rintro e w5 ⟨rfl, hb5⟩; have hw5 := hw4.trans (hb5.mono hw4.size); have hb45 := hb4.trans (hb5.mono hb4.size); have k5 := HKEEP.out _ hb45)
                  | (go_at_call 13; refine (lives_c (hT.below hw5)).mono ?_; rintro e w6 ⟨rfl, hb6⟩))
                go_ret
                exact ⟨rfl, hw5.trans (hb6.mono hw5.size)⟩
end Go.Proofs.YticcmhgahbnboaaDoor
