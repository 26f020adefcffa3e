/-
  Clock: the walks of ClockNobody and ClockPeeks.
-/
import Derived.Test.YtpndpmgbnnpciaaC3
namespace Go.Proofs.Ytpndpmgbnnpciaa
open Go.RowKit Go Go.Sort
set_option linter.unusedVariables false
set_option maxRecDepth 20000

theorem heap_belowC {W W' : World} {q : Nat} {o : Obj} (h : W.heap[q]? = some o) (hb : Below W.heap.size W W') : W'.heap[q]? = some o := (hb.block _ (Array.getElem?_eq_some_iff.1 h).1).trans h
set_option maxRecDepth 100000 in
set_option maxHeartbeats 6400000 in
theorem cknobody_walk (w : World) (kd now x y : Int) : Calls Try.prog 11 #[.agg #[.int .i64 kd, .int .i64 now, .int .i64 x, .int .i64 y]] w (Tells (.bool true) w) := by
  have hk0 := Clk.new w 75 kd now x y
  have hb0 := alloc_below w (.cells #[.int .i64 kd, .int .i64 now, .int .i64 x, .int .i64 y] 75)
  have hb1 := (hb0.alloc hb0.size (.cells #[.int .i64 0, .int .i64 0, .int .i64 0, .int .i64 0] 96))
  have hb2 := (hb1.alloc hb1.size (.cells #[.pointer none, .pointer (some ⟨w.heap.size + 1, 0, none⟩)] 68))
  have hk1 := (Clk.new (w.alloc (.cells #[.int .i64 kd, .int .i64 now, .int .i64 x, .int .i64 y] 75)) 96 0 0 0 0).alloc (.cells #[.pointer none, .pointer (some ⟨w.heap.size + 1, 0, none⟩)] 68)
  have hk2 := (hk0.alloc (.cells #[.int .i64 0, .int .i64 0, .int .i64 0, .int .i64 0] 96)).alloc (.cells #[.pointer none, .pointer (some ⟨w.heap.size + 1, 0, none⟩)] 68)
  have hk3 := heap_alloc_new ((w.alloc (.cells #[.int .i64 kd, .int .i64 now, .int .i64 x, .int .i64 y] 75)).alloc (.cells #[.int .i64 0, .int .i64 0, .int .i64 0, .int .i64 0] 96)) (.cells #[.pointer none, .pointer (some ⟨w.heap.size + 1, 0, none⟩)] 68)
  simp only [World.size_alloc] at hk1 hk3
  have hEQ := stamp_eql
  have hEN := stamp_neq
  have hEG := stamp_eqg
  clear hb0 hb1 hk0
  go_enter Try.func11, Try.ntmps11
  go_upto_region 2 with (fail)
  obtain ⟨B, hB⟩ : ∃ q, w.heap.size = q := ⟨_, rfl⟩
  rw [hB] at hk1 hk2 hk3 hb2 ⊢
  have HBe := Lib.hid hB
  obtain ⟨W1, hW1⟩ : ∃ X, ((w.alloc (.cells #[.int .i64 kd, .int .i64 now, .int .i64 x, .int .i64 y] 75)).alloc (.cells #[.int .i64 0, .int .i64 0, .int .i64 0, .int .i64 0] 96)).alloc (.cells #[.pointer none, .pointer (some ⟨B + 1, 0, none⟩)] 68) = X := ⟨_, rfl⟩
  rw [hW1] at hk1 hk2 hk3 hb2 ⊢
  have HB2 := Lib.hid hb2
  have HA := Lib.hid hk2
  have HC := Lib.hid hk1
  have HS := Lib.hid hk3
  clear hk1 hk2 hk3 hb2 hW1 hB
  have HM1 := Lib.hid (fun (w : World) => tells_grown (w := w) (fun W => ckmeet_nil W x y))
  have HL1 := Lib.hid (fun (w : World) => tells_grown (w := w) cklast_nil)
  have HT1 := Lib.hid (fun (w : World) => tells_grown (w := w) cktold_nil)
  go_loopw [13] (fun j wr => ∃ i : Nat, i ≤ 2 ∧ j = .int .i64 (i : Int) ∧ Below W1.heap.size W1 wr) (fun j _ => 2 - (intOf j).toNat)
  case atStart => exact ⟨0, by omega, rfl, Below.refl _ _⟩
  case round =>
    obtain ⟨i, hi, rfl, hb⟩ := hrel
    have hs := heap_belowC HS.out hb
    rcases (by omega : i = 0 ∨ i = 1 ∨ i = 2) with rfl | rfl | rfl
    · have p0 : wr.cell? ⟨B + 1 + 1, 0, none⟩ = some (.pointer none) := by rw [cell_of_row _ (B + 1 + 1) 0 _ _ (0, 0) hs]; rfl
      obtain ⟨a0, a1, a2, a3⟩ := (HA.out.kept hb).cs
      have HB3 := Lib.hid hb
      clear hs hb
      go_upto_region 5 with (go_at_call 43; (with_reducible refine (cktick_nil _ now).mono ?_); rintro e4 w4 ⟨rfl, hb4⟩)
      have hb5 := hb4.trans ((alloc_below w4 (.cells #[.int .i64 0, .int .i64 0] 66)).mono hb4.size)
      have HB5 := Lib.hid (HB3.out.trans (hb5.mono HB3.out.size))
      have hp5 := Pair.new w4 66 0 0
      obtain ⟨q5, hq5⟩ : ∃ q, w4.heap.size = q := ⟨_, rfl⟩
      rw [hq5] at hp5 ⊢
      have HP5 := Lib.hid hp5
      clear hq5 hp5 hb5 hb4 a0 a1 a2 a3 p0
      generalize w4.alloc (.cells #[.int .i64 0, .int .i64 0] 66) = W5 at *
      obtain ⟨a0, a1, a2, a3⟩ := (HA.out.kept HB5.out).cs
      go_upto_region 6 with (go_at_call 47; (with_reducible refine (ckpeek_nil now _).mono ?_); rintro e6 w6 ⟨rfl, hb6⟩)
      have hb7 := hb6.trans ((alloc_below w6 (.cells #[.int .i64 0, .int .i64 0] 66)).mono hb6.size)
      have HB7 := Lib.hid (HB5.out.trans (hb7.mono HB5.out.size))
      have hp7 := Pair.new w6 66 0 0
      have HP6 := Lib.hid (HP5.out.kept hb7)
      obtain ⟨q7, hq7⟩ : ∃ q, w6.heap.size = q := ⟨_, rfl⟩
      rw [hq7] at hp7 ⊢
      have HP7 := Lib.hid hp7
      clear hq7 hp7 hb7 hb6 a0 a1 a2 a3 HB5 HB3 HP5
      generalize w6.alloc (.cells #[.int .i64 0, .int .i64 0] 66) = W7 at *
      have k0 := cell_regrown HP6.out.c0
      have k1 := cell_regrown HP6.out.c1
      have k2 := cell_regrown HP7.out.c0
      have k3 := cell_regrown HP7.out.c1
      have k4 := cell_regrown (HA.out.kept HB7.out).cs.2.2.1
      have k5 := cell_regrown (HA.out.kept HB7.out).cs.2.2.2
      go_wp2
      refine wp_region_quiet_below (by kernel_rfl) (by kernel_rfl) ?_
      repeat (go_big_quiet_step (first | with_reducible exact HM1.out _ _ _ | with_reducible exact HL1.out _ _ _ | with_reducible exact HT1.out _ _ _))
      refine wpQuiet_nil ?_
      intro _ hw'
      obtain ⟨⟨dq, osq⟩, hw''⟩ := hw'
      subst hw''
      have HB8 := Lib.hid (HB7.out.trans ((below_regrown W7 dq osq).mono HB7.out.size))
      clear k0 k1 k2 k3 k4 k5
      generalize grow (redrawn W7 dq) osq = W8 at *
      go_wp2
      go_roundw
      case rel => exact ⟨1, by omega, by go_num, HB8.out⟩
      case measure => simp [intOf]
    · have p0 : wr.cell? ⟨B + 1 + 1, 1, none⟩ = some (.pointer (some ⟨B + 1, 0, none⟩)) := by rw [cell_of_row _ (B + 1 + 1) 1 _ _ (0, 0) hs]; rfl
      obtain ⟨a0, a1, a2, a3⟩ := (HA.out.kept hb).cs
      have HB3 := Lib.hid hb
      clear hs hb
      go_upto_region 5 with (go_at_call 43; (with_reducible refine (cktick_un (HC.out.kept HB3.out) now).mono ?_); rintro e4 w4 ⟨rfl, hb4⟩)
      have hb5 := hb4.trans ((alloc_below w4 (.cells #[.int .i64 0, .int .i64 0] 66)).mono hb4.size)
      have HB5 := Lib.hid (HB3.out.trans (hb5.mono HB3.out.size))
      have hp5 := Pair.new w4 66 0 0
      obtain ⟨q5, hq5⟩ : ∃ q, w4.heap.size = q := ⟨_, rfl⟩
      rw [hq5] at hp5 ⊢
      have HP5 := Lib.hid hp5
      clear hq5 hp5 hb5 hb4 a0 a1 a2 a3 p0
      generalize w4.alloc (.cells #[.int .i64 0, .int .i64 0] 66) = W5 at *
      obtain ⟨a0, a1, a2, a3⟩ := (HA.out.kept HB5.out).cs
      go_upto_region 6 with (go_at_call 47; (with_reducible refine (ckpeek_un (HC.out.kept HB5.out) now).mono ?_); rintro e6 w6 ⟨rfl, hb6⟩)
      have hb7 := hb6.trans ((alloc_below w6 (.cells #[.int .i64 0, .int .i64 0] 66)).mono hb6.size)
      have HB7 := Lib.hid (HB5.out.trans (hb7.mono HB5.out.size))
      have hp7 := Pair.new w6 66 0 0
      have HP6 := Lib.hid (HP5.out.kept hb7)
      obtain ⟨q7, hq7⟩ : ∃ q, w6.heap.size = q := ⟨_, rfl⟩
      rw [hq7] at hp7 ⊢
      have HP7 := Lib.hid hp7
      clear hq7 hp7 hb7 hb6 a0 a1 a2 a3 HB5 HB3 HP5
      generalize w6.alloc (.cells #[.int .i64 0, .int .i64 0] 66) = W7 at *
      clear HM1 HL1 HT1
      have HC7 := Lib.hid (HC.out.kept HB7.out)
      have HM1 := Lib.hid (fun (d : Nat) (os : Array Obj) => (ckmeet_un (HC7.out.kept (below_regrown W7 d os)) x y).regrown_of)
      have HL1 := Lib.hid (fun (d : Nat) (os : Array Obj) => (cklast_un (HC7.out.kept (below_regrown W7 d os))).regrown_of)
      have HT1 := Lib.hid (fun (d : Nat) (os : Array Obj) => (cktold_un (HC7.out.kept (below_regrown W7 d os))).regrown_of)
      have k0 := cell_regrown HP6.out.c0
      have k1 := cell_regrown HP6.out.c1
      have k2 := cell_regrown HP7.out.c0
      have k3 := cell_regrown HP7.out.c1
      have k4 := cell_regrown (HA.out.kept HB7.out).cs.2.2.1
      have k5 := cell_regrown (HA.out.kept HB7.out).cs.2.2.2
      go_wp2
      refine wp_region_quiet_below (by kernel_rfl) (by kernel_rfl) ?_
      repeat (go_big_quiet_step (first | with_reducible exact HM1.out _ _ | with_reducible exact HL1.out _ _ | with_reducible exact HT1.out _ _))
      refine wpQuiet_nil ?_
      intro _ hw'
      obtain ⟨⟨dq, osq⟩, hw''⟩ := hw'
      subst hw''
      have HB8 := Lib.hid (HB7.out.trans ((below_regrown W7 dq osq).mono HB7.out.size))
      clear k0 k1 k2 k3 k4 k5
      generalize grow (redrawn W7 dq) osq = W8 at *
      go_wp2
      go_roundw
      case rel => exact ⟨2, by omega, by go_num, HB8.out⟩
      case measure => simp [intOf]
    · have HB3 := Lib.hid (HB2.out.trans (hb.mono (by have h8 := HBe.out; have h9 := HB2.out.size; omega)))
      clear hs hb
      go_wp2_with (go_at_call 42; (with_reducible refine (cklives_c _).mono ?_); rintro e8 w8 ⟨rfl, hb8⟩)
      go_ret
      exact ⟨rfl, by rw [HBe.out]; exact HB3.out.trans (hb8.mono (by have h8 := HBe.out; have h9 := HB3.out.size; omega))⟩

set_option maxRecDepth 100000 in
set_option maxHeartbeats 6400000 in
theorem ckpeeks_walk (w : World) (site n s now other : Int) : Calls Try.prog 10 #[.int .i64 site, .agg #[.int .i64 n, .int .i64 s], .int .i64 now, .int .i64 other] w (Tells (.bool true) w) := by
  have HB := Lib.hid (alloc_below w (.cells #[.int .i64 n, .int .i64 s] 66))
  have HP := Lib.hid (Pair.new w 66 n s)
  have hEQ := stamp_eql
  have hEG := stamp_eqg
  have HLV := Lib.hid (fun (w : World) => tells_grown (w := w) cklives_c)
  cases hg : cgoodN site n s with
  | false =>
    have HN := Lib.hid (fun W => cknew_bad site n s W hg)
    clear hg
    go_enter Try.func10, Try.ntmps10
    go_upto_region 1 with (fail)
    obtain ⟨gp, hgp⟩ : ∃ q, w.heap.size = q := ⟨_, rfl⟩
    rw [hgp] at HP ⊢
    clear hgp
    generalize w.alloc (.cells #[.int .i64 n, .int .i64 s] 66) = W1 at *
    have p0 := HP.out.c0
    have p1 := HP.out.c1
    go_wp2_with (first
      | (go_at_call 40; (with_reducible refine (HN.out _).mono ?_); rintro e2 w2 ⟨rfl, hb2⟩)
      | (go_at_call 42; (with_reducible refine (cklives_c _).mono ?_); rintro e3 w3 ⟨rfl, hb3⟩))
    go_ret
    have h2 := HB.out.trans (hb2.mono HB.out.size)
    exact ⟨rfl, h2.trans (hb3.mono h2.size)⟩
  | true =>
    have ha : (site != 0) = true := by
      unfold cgoodN at hg
      simp only [Bool.and_eq_true, decide_eq_true_eq] at hg
      simp
      omega
    have HHA := Lib.hid ha
    have HN := Lib.hid (fun W => cknew_c site n s W hg)
    clear hg ha
    go_enter Try.func10, Try.ntmps10
    go_upto_region 1 with (fail)
    obtain ⟨gp, hgp⟩ : ∃ q, w.heap.size = q := ⟨_, rfl⟩
    rw [hgp] at HP ⊢
    have HGP := Lib.hid hgp
    clear hgp
    generalize w.alloc (.cells #[.int .i64 n, .int .i64 s] 66) = W1 at *
    have p0 := HP.out.c0
    have p1 := HP.out.c1
    go_upto_region 4 with (go_at_call 40; (with_reducible refine (HN.out _).mono ?_); rintro e2 w2 ⟨g, rfl, hg, hk2, hb2⟩)
    have HG := Lib.hid (show gp ≠ g ∧ w.heap.size ≤ g from ⟨by have := HP.out.lt; omega, by have := HB.out.size; omega⟩)
    have HB2 := Lib.hid (HB.out.trans (hb2.mono HB.out.size))
    have HP2 := Lib.hid (HP.out.kept hb2)
    have HK2 := Lib.hid hk2
    clear hg hb2 hk2 p0 p1
    obtain ⟨⟨⟨p, q⟩, f⟩, hx⟩ : ∃ r, snext n s now site = r := ⟨_, rfl⟩
    have hpk := fun W (h : Clk W g 96 site n s 0) => ckpeek_c h now HHA.out
    have hpk2 := fun W (h : Clk W g 96 site n s 0) => ckpeek_c h other HHA.out
    have htk := fun W (h : Clk W g 96 site n s 0) => cktick_c h now (by omega) (by omega) HHA.out
    unfold TickPost tickN at htk
    simp only [hx] at hpk htk
    have HPK := Lib.hid hpk
    have HPK2 := Lib.hid hpk2
    have HTK := Lib.hid htk
    clear hpk hpk2 htk hx
    go_upto_region 5 with (go_at_call 47; (with_reducible refine (HPK.out _ HK2.out).mono ?_); rintro e3 w3 ⟨rfl, hb3⟩)
    have hb4 := hb3.trans ((alloc_below w3 (.cells #[.int .i64 p, .int .i64 q] 66)).mono hb3.size)
    have HB4 := Lib.hid (HB2.out.trans (hb4.mono HB2.out.size))
    have HP4 := Lib.hid (HP2.out.kept hb4)
    have HK4 := Lib.hid (HK2.out.kept hb4)
    have hl4 := Pair.new w3 66 p q
    have HG4 := Lib.hid (show w3.heap.size ≠ g from by have := HK2.out.lt; have := hb3.size; omega)
    obtain ⟨g4, hg4⟩ : ∃ q, w3.heap.size = q := ⟨_, rfl⟩
    rw [hg4] at hl4 HG4 ⊢
    have HL4 := Lib.hid hl4
    clear hg4 hl4 hb4 hb3
    generalize w3.alloc (.cells #[.int .i64 p, .int .i64 q] 66) = W4 at *
    go_upto_region 6 with (go_at_call 47; (with_reducible refine (HPK2.out _ HK4.out).mono ?_); rintro e5 w5 ⟨rfl, hb5⟩)
    have HB5 := Lib.hid (HB4.out.trans (hb5.mono HB4.out.size))
    have HP5 := Lib.hid (HP4.out.kept hb5)
    have HK5 := Lib.hid (HK4.out.kept hb5)
    have HL5 := Lib.hid (HL4.out.kept hb5)
    clear hb5
    go_upto_region 7 with (go_at_call 43; (with_reducible refine (HTK.out _ HK5.out).mono ?_); rintro e6 w6 ⟨rfl, hk6, hb6⟩)
    have HB6 := Lib.hid (HB5.out.trans (hb6.base HG.out.2 HB5.out.size) |>.alloc (HB5.out.trans (hb6.base HG.out.2 HB5.out.size)).size (.cells #[.int .i64 p, .int .i64 q] 66))
    have HP6 := Lib.hid ((HP5.out.but hb6 HG.out.1).alloc (.cells #[.int .i64 p, .int .i64 q] 66))
    have HL6 := Lib.hid ((HL5.out.but hb6 HG4.out).alloc (.cells #[.int .i64 p, .int .i64 q] 66))
    have HK6 := Lib.hid (hk6.alloc (.cells #[.int .i64 p, .int .i64 q] 66))
    have hl6 := Pair.new w6 66 p q
    obtain ⟨g6, hg6⟩ : ∃ q, w6.heap.size = q := ⟨_, rfl⟩
    rw [hg6] at hl6 ⊢
    have HM6 := Lib.hid hl6
    clear hg6 hl6 hb6 hk6
    generalize w6.alloc (.cells #[.int .i64 p, .int .i64 q] 66) = W6 at *
    have k0 := cell_regrown HL6.out.c0
    have k1 := cell_regrown HL6.out.c1
    have k2 := cell_regrown HM6.out.c0
    have k3 := cell_regrown HM6.out.c1
    have k4 := cell_regrown HP6.out.c0
    have k5 := cell_regrown HP6.out.c1
    by_cases hf : f = 0
    · subst hf
      simp only [if_true] at HK6
      have HLA := Lib.hid (fun (d : Nat) (os : Array Obj) => (cklast_c (HK6.out.kept (below_regrown W6 d os)) HHA.out).regrown_of)
      go_wp2
      refine wp_region_quiet_below (by kernel_rfl) (by kernel_rfl) ?_
      repeat (go_big_quiet_step (first | with_reducible exact HLA.out _ _ | with_reducible exact HLV.out _ _ _))
      refine wpQuiet_nil ?_
      intro _ hw'
      obtain ⟨⟨dq, osq⟩, hw''⟩ := hw'
      subst hw''
      have HB8 := Lib.hid (HB6.out.trans ((below_regrown W6 dq osq).mono HB6.out.size))
      go_wp2
      go_ret
      exact ⟨rfl, HB8.out⟩
    · have e0 : (f == 0) = false := by simpa using hf
      have e1 : (f != 0) = true := by simpa using hf
      simp only [if_neg hf] at HK6
      clear hf
      have HLA := Lib.hid (fun (d : Nat) (os : Array Obj) => (cklast_c (HK6.out.kept (below_regrown W6 d os)) HHA.out).regrown_of)
      go_wp2
      refine wp_region_quiet_below (by kernel_rfl) (by kernel_rfl) ?_
      repeat (go_big_quiet_step (first | with_reducible exact HLA.out _ _ | with_reducible exact HLV.out _ _ _))
      refine wpQuiet_nil ?_
      intro _ hw'
      obtain ⟨⟨dq, osq⟩, hw''⟩ := hw'
      subst hw''
      have HB8 := Lib.hid (HB6.out.trans ((below_regrown W6 dq osq).mono HB6.out.size))
      go_wp2
      go_ret
      exact ⟨rfl, HB8.out⟩
end Go.Proofs.Ytpndpmgbnnpciaa
