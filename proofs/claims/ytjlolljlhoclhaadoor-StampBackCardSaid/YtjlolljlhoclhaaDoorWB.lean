/-
  Stamp: the program's codes, Put and Get.
-/
import Derived.Test.YtjlolljlhoclhaaDoorWP
import Derived.Test.YtjlolljlhoclhaaDoorW7
import Derived.Test.YtjlolljlhoclhaaDoorNG
namespace Go.Proofs.YtjlolljlhoclhaaDoor
open Go.RowKit Go Go.Sort
set_option linter.unusedVariables false

def scodeP (n s : Int) : Int := if sgood n s = true then scode n s else -1

set_option maxHeartbeats 1600000 in
theorem scode_c (n s : Int) (w : World) : Calls Tryd.prog 38 #[.agg #[.int .i64 n, .int .i64 s]] w (Tells (.int .i64 (scodeP n s)) w) := by
  have hp := Pair.new w 23 n s
  have hb := alloc_below w (.cells #[.int .i64 n, .int .i64 s] 23)
  have hEG := stamp_eqg
  have HV := Lib.hid (show scodeP n s = if sgood n s = true then scode n s else -1 from rfl)
  have G := sgood_c n s
  have HP := Lib.hid hp
  have HB := Lib.hid hb
  have p0 := hp.c0
  have p1 := hp.c1
  clear hp hb
  cases hg : sgood n s with
  | false =>
    rw [hg] at G
    have HG := Lib.hid G
    have hv : scodeP n s = -1 := by rw [HV.out, if_neg (by simp [hg])]
    rw [hv]
    clear hv G hg
    go_enter Tryd.func38, Tryd.ntmps38
    go_wp2_with (go_at_call 11; (with_reducible refine (HG.out _).mono ?_); rintro e w1 ⟨rfl, hb1⟩)
    go_ret
    exact ⟨rfl, HB.out.trans (hb1.mono HB.out.size)⟩
  | true =>
    rw [hg] at G
    have HG := Lib.hid G
    have hgd : (n = 0 ∧ s = 0) ∨ (1 ≤ n ∧ n ≤ 281474976710656 ∧ (s = 1 ∨ s = 2)) := by simpa [sgood] using hg
    have hv : scodeP n s = scode n s := by rw [HV.out, if_pos (by simp [hg])]
    rw [hv]
    rcases hgd with ⟨rfl, rfl⟩ | ⟨h1, h2, h3⟩
    · have hEQ := stamp_eql
      rw [show scode 0 0 = 0 by decide]
      clear hv G hg
      go_enter Tryd.func38, Tryd.ntmps38
      go_wp2_with (go_at_call 11; (with_reducible refine (HG.out _).mono ?_); rintro e w1 ⟨rfl, hb1⟩; have q0 := (HP.out.kept hb1).c0; have q1 := (HP.out.kept hb1).c1)
      go_ret
      exact ⟨rfl, HB.out.trans (hb1.mono HB.out.size)⟩
    · have hEQ := stamp_eqb n s 0 0 false (by rw [Bool.eq_false_iff]; simp; omega)
      have hc : scode n s = 2 * n + s - 1 := by unfold scode; rw [if_neg (by omega)]
      rw [hc]
      have hs1 : 1 ≤ s ∧ s ≤ 2 := by omega
      clear hv G hg hc h3
      go_enter Tryd.func38, Tryd.ntmps38
      go_wp2_with (go_at_call 11; (with_reducible refine (HG.out _).mono ?_); rintro e w1 ⟨rfl, hb1⟩; have q0 := (HP.out.kept hb1).c0; have q1 := (HP.out.kept hb1).c1)
      go_ret
      exact ⟨rfl, HB.out.trans (hb1.mono HB.out.size)⟩

set_option maxHeartbeats 1600000 in
theorem decode_zero (w : World) : Calls Tryd.prog 35 #[.int .i64 0] w (Tells (.agg #[.int .i64 0, .int .i64 0]) w) := by
  have hp := Pair.new w 23 0 0
  have hb := alloc_below w (.cells #[.int .i64 0, .int .i64 0] 23)
  have HP := Lib.hid hp
  have HB := Lib.hid hb
  have p0 := hp.c0
  have p1 := hp.c1
  have z0 := hp.fz 0
  have z1 := hp.fz 1
  clear hp hb
  go_enter Tryd.func35, Tryd.ntmps35
  go_wp2
  refine bodyPost_ret (results_cell_row rfl _ _ w.heap.size 23 _ (0, 0) _ rfl HP.out Tryd.underlying23 rfl (size2s _ _)) rfl ⟨rfl, HB.out⟩

set_option maxHeartbeats 1600000 in
theorem decode_c (x d r : Int) (hx : 0 < x) (hm : x ≤ 4611686018427387903) (hd : x / 2 = d) (hr : x % 2 = r) (w : World) : Calls Tryd.prog 35 #[.int .i64 x] w (Tells (.agg #[.int .i64 d, .int .i64 (r + 1)]) w) := by
  have hdv : Int.tdiv x 2 = d := by rw [← hd]; exact Int.tdiv_eq_ediv_of_nonneg (by omega)
  have hmd : Int.tmod x 2 = r := by rw [← hr]; exact Int.tmod_eq_emod_of_nonneg (by omega)
  have hd1 : 0 ≤ d ∧ d ≤ 4611686018427387903 := by omega
  have hr1 : 0 ≤ r ∧ r ≤ 1 := by omega
  have e0 : (x == 0) = false := by rw [beq_eq_false_iff_ne]; omega
  have hp := Pair.new w 23 0 0
  have hb := alloc_below w (.cells #[.int .i64 0, .int .i64 0] 23)
  have HP := Lib.hid hp
  have HB := Lib.hid hb
  have p0 := hp.c0
  have p1 := hp.c1
  have z0 := hp.fz 0
  have z1 := hp.fz 1
  clear hp hb hd hr
  go_enter Tryd.func35, Tryd.ntmps35
  go_wp2
  refine bodyPost_ret (results_cell_row rfl _ _ w.heap.size 23 _ (0, 0) _ rfl (Pair.new _ _ _ _) Tryd.underlying23 rfl (size2s _ _)) rfl ⟨rfl, alloc_below _ _⟩

set_option maxHeartbeats 1600000 in
theorem sput_c {w : World} {a : Option Addr} {m cap : Nat} {l : List UInt8} (hl : Bys w a m cap l) (hn : m ≤ 1000000) (hT : TabW w) (n s : Int) :
    Calls Tryd.prog 21 #[.slice a m cap, .agg #[.int .i64 n, .int .i64 s]] w (BytesPost (sputS l n s) w) := by
  have hp := Pair.new w 23 n s
  have hb := alloc_below w (.cells #[.int .i64 n, .int .i64 s] 23)
  have HL := Lib.hid (hl.below hb)
  have HTb := Lib.hid (hT.below hb)
  have HP := Lib.hid hp
  have HB := Lib.hid hb
  have C := scode_c n s
  have l0 := HP.out.c0
  have l1 := HP.out.c1
  have hv : sputS l n s = l ++ numB (scodeP n s) := by
    unfold sputS scodeP
    cases hg : sgood n s with
    | false => simp; rw [numB_none (.inl (by decide))]
    | true => simp
  have hbd : -9223372036854775808 ≤ scodeP n s ∧ scodeP n s ≤ 9223372036854775807 := by
    unfold scodeP
    cases hg : sgood n s with
    | false => simp
    | true =>
      have hgd : (n = 0 ∧ s = 0) ∨ (1 ≤ n ∧ n ≤ 281474976710656 ∧ (s = 1 ∨ s = 2)) := by simpa [sgood] using hg
      simp; unfold scode; split <;> omega
  rw [hv]
  obtain ⟨c, hc⟩ : ∃ c, scodeP n s = c := ⟨_, rfl⟩
  rw [hc] at C hbd ⊢
  have HC := Lib.hid C
  obtain ⟨hc0, hc1⟩ := hbd
  have HR := Lib.hid (fun (W : World) (h : Bys W a m cap l) (hT : TabW W) => put_c h hn c hc0 hc1 hT)
  clear hp hb hl hT C hv hc
  go_enter Tryd.func21, Tryd.ntmps21
  go_upto_region 1 with (fail)
  generalize w.alloc (.cells #[.int .i64 n, .int .i64 s] 23) = W1 at *
  go_wp2_with (first
    | (go_at_call 38; (with_reducible refine (HC.out _).mono ?_); rintro e w2 ⟨rfl, hb2⟩)
    | (go_at_call 37; (with_reducible refine (HR.out _ (HL.out.below hb2) (HTb.out.below hb2)).mono ?_); rintro e w3 ⟨v, rfl, ho, hb3⟩))
  go_ret
  have h2 := HB.out.trans (hb2.mono HB.out.size)
  exact ⟨_, rfl, ho.mono h2.size, h2.trans (hb3.mono h2.size)⟩

theorem sget_alt (l : List UInt8) : sgetS l = if ¬ (getS l).2.2 = 0 then ((0, 0), 0, (getS l).2.2)
    else if (getS l).1 = 0 then ((0, 0), (getS l).2.1, 0)
    else if sgood ((getS l).1 / 2) ((getS l).1 % 2 + 1) = true then (((getS l).1 / 2, (getS l).1 % 2 + 1), (getS l).2.1, 0) else ((0, 0), 0, 11) := by
  unfold sgetS
  rw [Int.add_comm 1 ((getS l).1 % 2)]

set_option maxHeartbeats 1600000 in
theorem sget_c {w : World} {a : Option Addr} {m cap : Nat} {l : List UInt8} (hl : Bys w a m cap l) :
    Calls Tryd.prog 19 #[.slice a m cap] w (Tells (.tuple #[.agg #[.int .i64 (sgetS l).1.1, .int .i64 (sgetS l).1.2], .int .i64 (sgetS l).2.1, .int .i64 (sgetS l).2.2]) w) := by
  have ho := Pair.new w 23 0 0
  have hb := alloc_below w (.cells #[.int .i64 0, .int .i64 0] 23)
  have HR := Lib.hid (get_c (hl.below hb))
  have HV := Lib.hid (sget_alt l)
  have hok := getS_ok l
  have HO := Lib.hid ho
  have HB := Lib.hid hb
  obtain ⟨⟨x, k, f⟩, hx⟩ : ∃ q, getS l = q := ⟨_, rfl⟩
  rw [hx] at HR HV hok
  simp only at HR HV hok
  clear hl ho hb hx
  by_cases hf : f = 0
  · subst hf
    obtain ⟨q, rfl, hq1, hq2, x0, x1⟩ := hok rfl
    clear hok hq2
    obtain ⟨d, r, hD, hV⟩ : ∃ d r, (∀ W, Calls Tryd.prog 35 #[.int .i64 x] W (Tells (.agg #[.int .i64 d, .int .i64 r]) W)) ∧ (sgetS l = if sgood d r = true then ((d, r), (q : Int), 0) else ((0, 0), 0, 11)) := by
      by_cases hx : x = 0
      · subst hx
        exact ⟨0, 0, decode_zero, by rw [HV.out, if_neg (by simp), if_pos rfl, if_pos (by decide)]⟩
      · exact ⟨_, _, decode_c x _ _ (by omega) x1 rfl rfl, by rw [HV.out, if_neg (by simp), if_neg hx]⟩
    have HD := Lib.hid hD
    have HV2 := Lib.hid hV
    have G := sgood_c d r
    clear HV hD hV
    go_enter Tryd.func19, Tryd.ntmps19
    go_upto_region 1 with (fail)
    generalize w.alloc (.cells #[.int .i64 0, .int .i64 0] 23) = W1 at *
    go_upto_region 5 with (first
      | (go_at_call 34; (with_reducible refine HR.out.mono ?_); rintro e w1 ⟨rfl, rfl⟩)
      | (go_at_call 35; (with_reducible refine (HD.out _).mono ?_); rintro e w2 ⟨rfl, hb2⟩))
    have HO2 := Lib.hid ((HO.out.kept hb2).alloc (.cells #[.int .i64 d, .int .i64 r] 23))
    have hx2 := Pair.new w2 23 d r
    have h2 := HB.out.trans (hb2.mono HB.out.size)
    have HB2 := Lib.hid (h2.alloc h2.size (.cells #[.int .i64 d, .int .i64 r] 23))
    obtain ⟨gx, hgx⟩ : ∃ g, w2.heap.size = g := ⟨_, rfl⟩
    rw [hgx] at hx2 ⊢
    generalize w2.alloc (.cells #[.int .i64 d, .int .i64 r] 23) = W2 at *
    have u0 := hx2.c0
    have u1 := hx2.c1
    have HX2 := Lib.hid hx2
    clear hx2 h2 hb2 hgx HO HB
    cases hg : sgood d r with
    | true =>
      rw [hg] at G HV2
      have HG := Lib.hid G
      have HV3 := Lib.hid (show sgetS l = ((d, r), (q : Int), 0) by rw [HV2.out, if_pos rfl])
      clear G hg HV2
      go_wp2_with (go_at_call 11; (with_reducible refine (HG.out _).mono ?_); rintro e w3 ⟨rfl, hb3⟩; have y0 := (HX2.out.kept hb3).c0; have y1 := (HX2.out.kept hb3).c1; have o0 := (HO2.out.kept hb3).c0; have o1 := (HO2.out.kept hb3).c1; have z0 := (HO2.out.kept hb3).fz 0; have z1 := (HO2.out.kept hb3).fz 1)
      refine bodyPost_ret (res_cell_tmp2 rfl _ _ w.heap.size 23 _ (0, 0) _ (.int .i64 (q : Int)) (.int .i64 0) rfl rfl rfl (((HO2.out.kept hb3).set0 _).set1 _) Tryd.underlying23 rfl (size2s _ _)) rfl ⟨by rw [HV3.out], ((HB2.out.trans (hb3.mono HB2.out.size)).setCell (by simp) _).setCell (by simp) _⟩
    | false =>
      rw [hg] at G HV2
      have HG := Lib.hid G
      have HV3 := Lib.hid (show sgetS l = ((0, 0), 0, 11) by rw [HV2.out, if_neg (by simp)])
      clear G hg HV2
      go_wp2_with (go_at_call 11; (with_reducible refine (HG.out _).mono ?_); rintro e w3 ⟨rfl, hb3⟩; have y0 := (HX2.out.kept hb3).c0; have y1 := (HX2.out.kept hb3).c1; have o0 := (HO2.out.kept hb3).c0; have o1 := (HO2.out.kept hb3).c1; have z0 := (HO2.out.kept hb3).fz 0; have z1 := (HO2.out.kept hb3).fz 1)
      refine bodyPost_ret (res_cell_tmp2 rfl _ _ w.heap.size 23 _ (0, 0) _ (.int .i64 0) (.int .i64 11) rfl rfl rfl (((HO2.out.kept hb3).set0 _).set1 _) Tryd.underlying23 rfl (size2s _ _)) rfl ⟨by rw [HV3.out], ((HB2.out.trans (hb3.mono HB2.out.size)).setCell (by simp) _).setCell (by simp) _⟩
  · have hf1 : (f != 0) = true := by simpa using hf
    have hv : sgetS l = ((0, 0), 0, f) := by rw [HV.out, if_pos hf]
    have HV2 := Lib.hid hv
    clear hv HV hok
    go_enter Tryd.func19, Tryd.ntmps19
    go_upto_region 1 with (fail)
    generalize w.alloc (.cells #[.int .i64 0, .int .i64 0] 23) = W1 at *
    have o0 := HO.out.c0
    have o1 := HO.out.c1
    have z0 := HO.out.fz 0
    have z1 := HO.out.fz 1
    go_wp2_with (go_at_call 34; (with_reducible refine HR.out.mono ?_); rintro e w1 ⟨rfl, rfl⟩)
    refine bodyPost_ret (res_cell_tmp2 rfl _ _ w.heap.size 23 _ (0, 0) _ (.int .i64 0) (.int .i64 f) rfl rfl rfl ((HO.out.set0 _).set1 _) Tryd.underlying23 rfl (size2s _ _)) rfl ⟨by rw [HV2.out], (HB.out.setCell (by simp) _).setCell (by simp) _⟩

theorem stampOkB : StampOkB := ⟨fun hl hn hT n s => sput_c hl hn hT n s, fun hl => sget_c hl⟩
end Go.Proofs.YtjlolljlhoclhaaDoor
