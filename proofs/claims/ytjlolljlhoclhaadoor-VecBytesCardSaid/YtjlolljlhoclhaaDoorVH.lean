/-
  Vec: Get of the program.
-/
import Derived.Test.YtjlolljlhoclhaaDoorVG
namespace Go.Proofs.YtjlolljlhoclhaaDoor
open Go.RowKit Go Go.Sort
set_option linter.unusedVariables false

set_option maxHeartbeats 3200000 in
theorem vget_c {w : World} {a : Option Addr} {n cap : Nat} {l : List UInt8} (hl : Bys w a n cap l) :
    Calls Tryd.prog 28 #[.slice a n cap] w (Tells (.tuple #[.agg #[.int .i64 (vgetS l).1.1, .int .i64 (vgetS l).1.2], .int .i64 (vgetS l).2.1, .int .i64 (vgetS l).2.2]) w) := by
  have ho := (Pair.new w 51 0 0).alloc (.cells #[.int .i64 0, .int .i64 0] 51)
  have hv := Pair.second w (.cells #[.int .i64 0, .int .i64 0] 51) 51 0 0
  have hb := second_below w (.cells #[.int .i64 0, .int .i64 0] 51) (.cells #[.int .i64 0, .int .i64 0] 51)
  obtain ⟨a0, hs1, hs2, hl0⟩ := slice_bys hl (q := 0) (by omega)
  have hs1 : ∀ W', (Instr.slice 37 (.slice a n cap) (some (.int .i64 0)) none none).run Tryd.prog W' = .ok (.slice a0 (n - 0) (cap - 0)) W' := hs1
  have hs2 : ∀ W', (Instr.sliceAt 37 (.slice a n cap) (some (.int .i64 0)) none none).run Tryd.prog W' = .ok (.slice a0 (n - 0) (cap - 0)) W' := hs2
  simp only [Nat.sub_zero, List.drop_zero] at hs1 hs2 hl0
  have HR := Lib.hid (fun W (h : Below w.heap.size w W) => get_c (hl0.below h))
  have hok := getS_ok l
  have hlen := hl.len
  have hmx : n ≤ 9223372036854775807 := Nat.le_trans hl.le hl.max
  have HO := Lib.hid ho
  have HVc := Lib.hid hv
  have HB := Lib.hid hb
  clear ho hv hb hl0
  obtain ⟨⟨x, k, f⟩, hx⟩ : ∃ q, getS l = q := ⟨_, rfl⟩
  rw [hx] at HR hok
  simp only at HR hok
  have HS1 := Lib.hid hs1
  have HS2 := Lib.hid hs2
  clear hs1 hs2
  by_cases hf : f = 0
  · subst hf
    obtain ⟨q, rfl, hq1, hq2, x0, x1⟩ := hok rfl
    obtain ⟨a', ht1, ht2, hl2⟩ := slice_bys hl (q := q) (by omega)
    have HR2 := Lib.hid (fun W (h : Below w.heap.size w W) => get_c (hl2.below h))
    have hok2 := getS_ok (l.drop q)
    obtain ⟨⟨y, k2, f2⟩, hy⟩ : ∃ z, getS (l.drop q) = z := ⟨_, rfl⟩
    rw [hy] at HR2 hok2
    simp only at HR2 hok2
    have hq3 : q ≤ n := by omega
    have HT1 := Lib.hid ht1
    have HT2 := Lib.hid ht2
    have hqs : (q : Int) ≤ 9223372036854775807 := by omega
    clear hl hl2 hok ht1 ht2
    by_cases hf2 : f2 = 0
    · subst hf2
      obtain ⟨q2, rfl, hq4, hq5, y0, y1⟩ := hok2 rfl
      have HV := Lib.hid (vget_two hx hy)
      have hsum : ((q : Int) + (q2 : Int)) ≤ 9223372036854775807 := by rw [List.length_drop] at hq5; omega
      have G := vgood_c x y
      clear hok2 hq5 hx hy hlen hmx
      go_enter Tryd.func28, Tryd.ntmps28
      go_upto_region 2 with (fail)
      generalize (w.alloc (.cells #[.int .i64 0, .int .i64 0] 51)).alloc (.cells #[.int .i64 0, .int .i64 0] 51) = W1 at *
      go_wp2
      go_loopw [6, 11] (fun sz i wr => (Pair wr w.heap.size 51 0 0 ∧ Below w.heap.size w wr) ∧ ((i = .int .i64 0 ∧ sz = .int .i64 0 ∧ Pair wr (w.heap.size + 1) 51 0 0) ∨ (i = .int .i64 1 ∧ sz = .int .i64 (q : Int) ∧ Pair wr (w.heap.size + 1) 51 x 0) ∨ (i = .int .i64 2 ∧ sz = .int .i64 ((q : Int) + (q2 : Int)) ∧ Pair wr (w.heap.size + 1) 51 x y))) (fun _ i _ => 2 - (intOf i).toNat)
      case atStart => exact ⟨⟨HO.out, HB.out⟩, .inl ⟨rfl, rfl, HVc.out⟩⟩
      case round =>
        clear HO HB HVc
        obtain ⟨⟨ho, hB⟩, ⟨rfl, rfl, hv⟩ | ⟨rfl, rfl, hv⟩ | ⟨rfl, rfl, hv⟩⟩ := hrel
        · have HV0 := Lib.hid hv
          have HO2 := Lib.hid ho
          have HB2 := Lib.hid hB
          have hs1 := HS1.out
          have hs2 := HS2.out
          have u0 := hv.c0
          have z0 := hv.fz 0
          clear ho hB hv
          go_wp2_with (go_at_call 34; (with_reducible refine (HR.out _ HB2.out).mono ?_); rintro e w1 ⟨rfl, rfl⟩)
          go_roundw
          case rel => exact ⟨⟨HO2.out.other _ _ (by simp), HB2.out.setCell (by simp) _⟩, .inr (.inl ⟨rfl, by simp, HV0.out.set0 _⟩)⟩
          case measure => simp [intOf]
        · have HV0 := Lib.hid hv
          have HO2 := Lib.hid ho
          have HB2 := Lib.hid hB
          have ht1 := HT1.out
          have ht2 := HT2.out
          have u1 := hv.c1
          have z1 := hv.fz 1
          clear ho hB hv
          go_wp2_with (go_at_call 34; (with_reducible refine (HR2.out _ HB2.out).mono ?_); rintro e w1 ⟨rfl, rfl⟩)
          go_roundw
          case rel => exact ⟨⟨HO2.out.other _ _ (by simp), HB2.out.setCell (by simp) _⟩, .inr (.inr ⟨rfl, rfl, HV0.out.set1 _⟩)⟩
          case measure => simp [intOf]
        · have u0 := hv.c0
          have u1 := hv.c1
          have HX2 := Lib.hid hv
          have HO2 := Lib.hid ho
          have HB2 := Lib.hid hB
          clear ho hB hv
          cases hg : vgood x y with
          | true =>
            rw [hg] at G HV
            have HG := Lib.hid G
            have HV3 := Lib.hid (show vgetS l = ((x, y), (q : Int) + (q2 : Int), 0) by rw [HV.out, if_pos rfl])
            clear G hg HV
            go_wp2_with (go_at_call 32; (with_reducible refine (HG.out _).mono ?_); rintro e w3 ⟨rfl, hb3⟩; have y0 := (HX2.out.kept hb3).c0; have y1 := (HX2.out.kept hb3).c1; have o0 := (HO2.out.kept hb3).c0; have o1 := (HO2.out.kept hb3).c1; have z0 := (HO2.out.kept hb3).fz 0; have z1 := (HO2.out.kept hb3).fz 1)
            refine bodyPost_ret (res_cell_tmp2 rfl _ _ w.heap.size 51 _ (0, 0) _ (.int .i64 ((q : Int) + (q2 : Int))) (.int .i64 0) rfl rfl rfl (((HO2.out.kept hb3).set0 _).set1 _) Tryd.underlying51 rfl (size2 _ _)) rfl ⟨by rw [HV3.out], ((HB2.out.trans (hb3.mono HB2.out.size)).setCell (by simp) _).setCell (by simp) _⟩
          | false =>
            rw [hg] at G HV
            have HG := Lib.hid G
            have HV3 := Lib.hid (show vgetS l = ((0, 0), 0, 11) by rw [HV.out, if_neg (by simp)])
            clear G hg HV
            go_wp2_with (go_at_call 32; (with_reducible refine (HG.out _).mono ?_); rintro e w3 ⟨rfl, hb3⟩; have y0 := (HX2.out.kept hb3).c0; have y1 := (HX2.out.kept hb3).c1; have o0 := (HO2.out.kept hb3).c0; have o1 := (HO2.out.kept hb3).c1; have z0 := (HO2.out.kept hb3).fz 0; have z1 := (HO2.out.kept hb3).fz 1)
            refine bodyPost_ret (res_cell_tmp2 rfl _ _ w.heap.size 51 _ (0, 0) _ (.int .i64 0) (.int .i64 11) rfl rfl rfl (((HO2.out.kept hb3).set0 _).set1 _) Tryd.underlying51 rfl (size2 _ _)) rfl ⟨by rw [HV3.out], ((HB2.out.trans (hb3.mono HB2.out.size)).setCell (by simp) _).setCell (by simp) _⟩
    · have hf1 : (f2 != 0) = true := by simpa using hf2
      have HV2 := Lib.hid (vget_err2 hx hy hf2)
      clear hok2 hx hy hlen hf2 hmx
      go_enter Tryd.func28, Tryd.ntmps28
      go_upto_region 2 with (fail)
      generalize (w.alloc (.cells #[.int .i64 0, .int .i64 0] 51)).alloc (.cells #[.int .i64 0, .int .i64 0] 51) = W1 at *
      go_wp2
      go_loopw [6, 11] (fun sz i wr => (Pair wr w.heap.size 51 0 0 ∧ Below w.heap.size w wr) ∧ ((i = .int .i64 0 ∧ sz = .int .i64 0 ∧ Pair wr (w.heap.size + 1) 51 0 0) ∨ (i = .int .i64 1 ∧ sz = .int .i64 (q : Int) ∧ Pair wr (w.heap.size + 1) 51 x 0))) (fun _ i _ => 2 - (intOf i).toNat)
      case atStart => exact ⟨⟨HO.out, HB.out⟩, .inl ⟨rfl, rfl, HVc.out⟩⟩
      case round =>
        clear HO HB HVc
        obtain ⟨⟨ho, hB⟩, ⟨rfl, rfl, hv⟩ | ⟨rfl, rfl, hv⟩⟩ := hrel
        · have HV0 := Lib.hid hv
          have HO2 := Lib.hid ho
          have HB2 := Lib.hid hB
          have hs1 := HS1.out
          have hs2 := HS2.out
          have u0 := hv.c0
          have z0 := hv.fz 0
          clear ho hB hv
          go_wp2_with (go_at_call 34; (with_reducible refine (HR.out _ HB2.out).mono ?_); rintro e w1 ⟨rfl, rfl⟩)
          go_roundw
          case rel => exact ⟨⟨HO2.out.other _ _ (by simp), HB2.out.setCell (by simp) _⟩, .inr (⟨rfl, by simp, HV0.out.set0 _⟩)⟩
          case measure => simp [intOf]
        · have HO2 := Lib.hid ho
          have HB2 := Lib.hid hB
          have ht1 := HT1.out
          have ht2 := HT2.out
          have o0 := ho.c0
          have o1 := ho.c1
          have z0 := ho.fz 0
          have z1 := ho.fz 1
          clear ho hB hv
          go_wp2_with (go_at_call 34; (with_reducible refine (HR2.out _ HB2.out).mono ?_); rintro e w1 ⟨rfl, rfl⟩)
          refine bodyPost_ret (res_cell_tmp2 rfl _ _ w.heap.size 51 _ (0, 0) _ (.int .i64 0) (.int .i64 f2) rfl rfl rfl ((HO2.out.set0 _).set1 _) Tryd.underlying51 rfl (size2 _ _)) rfl ⟨by rw [HV2.out], (HB2.out.setCell (by simp) _).setCell (by simp) _⟩
  · have hf1 : (f != 0) = true := by simpa using hf
    have HV2 := Lib.hid (vget_err1 hx hf)
    clear hok hx hlen hf hl hmx
    go_enter Tryd.func28, Tryd.ntmps28
    go_upto_region 2 with (fail)
    generalize (w.alloc (.cells #[.int .i64 0, .int .i64 0] 51)).alloc (.cells #[.int .i64 0, .int .i64 0] 51) = W1 at *
    go_wp2
    go_loopw [6, 11] (fun sz i wr => (Pair wr w.heap.size 51 0 0 ∧ Below w.heap.size w wr) ∧ (i = .int .i64 0 ∧ sz = .int .i64 0)) (fun _ i _ => 2 - (intOf i).toNat)
    case atStart => exact ⟨⟨HO.out, HB.out⟩, rfl, rfl⟩
    case round =>
      clear HO HB HVc
      obtain ⟨⟨ho, hB⟩, rfl, rfl⟩ := hrel
      have HO2 := Lib.hid ho
      have HB2 := Lib.hid hB
      have hs1 := HS1.out
      have hs2 := HS2.out
      have o0 := ho.c0
      have o1 := ho.c1
      have z0 := ho.fz 0
      have z1 := ho.fz 1
      clear ho hB
      go_wp2_with (go_at_call 34; (with_reducible refine (HR.out _ HB2.out).mono ?_); rintro e w1 ⟨rfl, rfl⟩)
      refine bodyPost_ret (res_cell_tmp2 rfl _ _ w.heap.size 51 _ (0, 0) _ (.int .i64 0) (.int .i64 f) rfl rfl rfl ((HO2.out.set0 _).set1 _) Tryd.underlying51 rfl (size2 _ _)) rfl ⟨by rw [HV2.out], (HB2.out.setCell (by simp) _).setCell (by simp) _⟩
end Go.Proofs.YtjlolljlhoclhaaDoor
