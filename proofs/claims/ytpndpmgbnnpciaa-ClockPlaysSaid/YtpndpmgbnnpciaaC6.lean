/-
  Clock: the walk of ClockPlays.
-/
import Derived.Test.YtpndpmgbnnpciaaC5
import Derived.Test.YtpndpmgbnnpciaaDQ
namespace Go.Proofs.Ytpndpmgbnnpciaa
open Go.RowKit Go Go.Sort Go.Deep
set_option linter.unusedVariables false
set_option maxRecDepth 20000

/-- The two clocks, and the act, while both meet a stamp. -/
structure MtA (w : World) (g gr gx : Nat) (site n s n' s' t kd now x y : Int) (W : World) : Prop where
  c : Clk W g 96 site n s t
  r : Clk W gr 84 site n' s' t
  a : Clk W gx 75 kd now x y
  b : Below w.heap.size w W
def MtR (w : World) (g gr gx : Nat) (site n s p q t kd now x y : Int) : Nat → World → Prop
  | 0, W => MtA w g gr gx site n s n s t kd now x y W
  | 1, W => MtA w g gr gx site p q n s t kd now x y W
  | _, W => MtA w g gr gx site p q p q t kd now x y W
theorem MtR.act {w W : World} {g gr gx : Nat} {site n s p q t kd now x y : Int} : ∀ {k : Nat}, MtR w g gr gx site n s p q t kd now x y k W → Clk W gx 75 kd now x y
  | 0, h => h.a
  | 1, h => h.a
  | _ + 2, h => h.a
theorem MtA.drawn {w W : World} {g gr gx : Nat} {site n s p q t kd now x y : Int} (h : MtA w g gr gx site n s p q t kd now x y W) : MtA w g gr gx site n s p q t kd now x y { W with drawn := W.drawn + 1 } := ⟨h.c, h.r, h.a, h.b.os, h.b.tape, h.b.output, h.b.size, h.b.block⟩

set_option maxRecDepth 100000 in
set_option maxHeartbeats 6400000 in
theorem ckplays_walk {w : World} (site n0 s0 : Int) {a : Option Addr} {m cap : Nat} {l : List Ck} (hl : Cks w a m cap l) : Calls Try.prog 8 #[.int .i64 site, .agg #[.int .i64 n0, .int .i64 s0], .slice a m cap] w (Tells (.bool true) w) := by
  have hle := hl.le
  have hmax := hl.max
  have HB0 := Lib.hid (alloc_below w (.cells #[.int .i64 n0, .int .i64 s0] 66))
  have HP := Lib.hid (Pair.new w 66 n0 s0)
  have HL := Lib.hid hl
  clear hl
  cases hg : cgoodN site n0 s0 with
  | false =>
    have HN := Lib.hid (fun W => cknew_bad site n0 s0 W hg)
    have HRN := Lib.hid (fun W => rcknew_bad site n0 s0 W hg)
    clear hg
    obtain ⟨d, hd⟩ : ∃ d, decide ((1000 : Int) < (m : Int)) = d := ⟨_, rfl⟩
    cases d
    all_goals
      go_enter Try.func8, Try.ntmps8
      go_upto_region 1 with (fail)
      obtain ⟨gp, hgp⟩ : ∃ q, w.heap.size = q := ⟨_, rfl⟩
      have HGP := Lib.hid hgp
      rw [hgp] at HP ⊢
      clear hgp
      generalize w.alloc (.cells #[.int .i64 n0, .int .i64 s0] 66) = W1 at *
      have p0 := HP.out.c0
      have p1 := HP.out.c1
      go_upto_region 3 with (first
        | (go_at_call 40; (with_reducible refine (HN.out _).mono ?_); rintro e2 w2 ⟨rfl, hb2⟩; have HB2 := Lib.hid (HB0.out.trans (hb2.mono HB0.out.size)); have HP2 := Lib.hid (HP.out.kept hb2); clear hb2 p0 p1; have p0 := HP2.out.c0; have p1 := HP2.out.c1)
        | (go_at_call 41; (with_reducible refine (HRN.out _).mono ?_); rintro e3 w3 ⟨rfl, hb3⟩; have HB3 := Lib.hid (HB2.out.trans (hb3.mono HB2.out.size)); clear hb3))
      clear p0 p1
    · go_upto_region 6 with (fail)
      go_wp2
      go_loopw [11] (fun i wr => Below w.heap.size w wr) (fun i _ => 0)
      case atStart => exact HB3.out
      case round =>
        have HB4 := Lib.hid hrel
        clear hrel
        go_wp2_with (go_at_call 42; (with_reducible refine (cklives_c _).mono ?_); rintro e8 w8 ⟨rfl, hb8⟩)
        go_ret
        exact ⟨rfl, HB4.out.trans (hb8.mono HB4.out.size)⟩
    · go_wp2_with (go_at_call 42; (with_reducible refine (cklives_c _).mono ?_); rintro e8 w8 ⟨rfl, hb8⟩)
      go_ret
      exact ⟨rfl, HB3.out.trans (hb8.mono HB3.out.size)⟩
  | true =>
    have ha : (site != 0) = true := by
      unfold cgoodN at hg
      simp only [Bool.and_eq_true, decide_eq_true_eq] at hg
      simp
      omega
    have HNE := Lib.hid ha
    have HN := Lib.hid (fun W => cknew_c site n0 s0 W hg)
    have HRN := Lib.hid (fun W => rcknew_c site n0 s0 W hg)
    clear hg ha
    have hdd : ∃ d, decide ((1000 : Int) < (m : Int)) = d := ⟨_, rfl⟩
    obtain ⟨d, hd⟩ := hdd
    have HM1 := Lib.hid (show d = false → m ≤ 1000 from fun h => by rw [h] at hd; have : ¬ ((1000 : Int) < (m : Int)) := of_decide_eq_false hd; omega)
    cases d
    all_goals
      go_enter Try.func8, Try.ntmps8
      go_upto_region 1 with (fail)
      obtain ⟨gp, hgp⟩ : ∃ q, w.heap.size = q := ⟨_, rfl⟩
      have HGP := Lib.hid hgp
      rw [hgp] at HP ⊢
      clear hgp
      generalize w.alloc (.cells #[.int .i64 n0, .int .i64 s0] 66) = W1 at *
      have p0 := HP.out.c0
      have p1 := HP.out.c1
      go_upto_region 3 with (first
        | (go_at_call 40; (with_reducible refine (HN.out _).mono ?_); rintro e2 w2 ⟨g, rfl, hg, hk2, hb2⟩; have HG := Lib.hid (show w.heap.size ≤ g from by have := HB0.out.size; omega); have HB2 := Lib.hid (HB0.out.trans (hb2.mono HB0.out.size)); have HP2 := Lib.hid (HP.out.kept hb2); have HC2 := Lib.hid hk2; have HS2 := Lib.hid (hb2.size); clear hg hk2 hb2 p0 p1; have p0 := HP2.out.c0; have p1 := HP2.out.c1)
        | (go_at_call 41; (with_reducible refine (HRN.out _).mono ?_); rintro e3 w3 ⟨gr, rfl, hg, hk3, hb3⟩; have HGR := Lib.hid (show w.heap.size ≤ gr ∧ g ≠ gr from ⟨by have := HB2.out.size; omega, by have := HC2.out.lt; omega⟩); have HB3 := Lib.hid (HB2.out.trans (hb3.mono HB2.out.size)); have HC3 := Lib.hid (HC2.out.kept hb3); have HR3 := Lib.hid hk3; clear hg hk3 hb3))
      clear p0 p1
    · go_upto_region 6 with (fail)
      go_wp2
      go_loopw [11] (fun i wr => ∃ (j : Nat) (n s t : Int), j ≤ m ∧ i = .int .i64 (j : Int) ∧ Clk wr g 96 site n s t ∧ Clk wr gr 84 site n s t ∧ 0 ≤ t ∧ t ≤ j ∧ Below w.heap.size w wr) (fun i _ => m - (intOf i).toNat)
      case atStart => exact ⟨0, n0, s0, 0, by omega, rfl, HC3.out, HR3.out, by omega, by omega, HB3.out⟩
      case round =>
        clear HC3 HR3 HB3 HB2 HC2 HP2 HP HB0 HN HRN HS2
        obtain ⟨j, n, s, t, hj, rfl, hc, hr, ht0, ht1, hB⟩ := hrel
        by_cases hlt : j < m
        · have hji : (j : Int) < (m : Int) := by omega
          have hjc : (j : Int) < (cap : Int) := by omega
          obtain ⟨bl, off, rfl, hat⟩ := HL.out.at hlt
          obtain ⟨q, hq⟩ : ∃ q, l.getD j Ck.zero = q := ⟨_, rfl⟩
          rw [hq] at hat
          obtain ⟨kd, now, x, y⟩ := q
          obtain ⟨c0, c1, c2, c3⟩ := hat wr hB
          simp only at c0 c1 c2 c3
          have HT0 := Lib.hid (show 0 ≤ t ∧ t ≤ (j : Int) from ⟨ht0, ht1⟩)
          have HJM := Lib.hid (show j < m ∧ m ≤ 1000 from ⟨hlt, by first | exact HM1.out rfl | exact HM1.out trivial⟩)
          have hbx := alloc_below wr (.cells #[.int .i64 kd, .int .i64 now, .int .i64 x, .int .i64 y] 75)
          have HC := Lib.hid (hc.kept hbx)
          have HR := Lib.hid (hr.kept hbx)
          have hx := Clk.new wr 75 kd now x y
          have HXN := Lib.hid (show wr.heap.size ≠ g ∧ wr.heap.size ≠ gr from ⟨by have := hc.lt; omega, by have := hr.lt; omega⟩)
          have HB3 := Lib.hid (hB.trans (hbx.mono hB.size))
          clear hat hq hc hr ht0 ht1 hB hbx
          go_upto_region 9 with (fail)
          clear c0 c1 c2 c3
          obtain ⟨gx, hgx⟩ : ∃ q, wr.heap.size = q := ⟨_, rfl⟩
          rw [hgx] at hx HXN ⊢
          have HX := Lib.hid hx
          clear hx hgx
          generalize wr.alloc (.cells #[.int .i64 kd, .int .i64 now, .int .i64 x, .int .i64 y] 75) = W3 at *
          obtain ⟨c0, c1, c2, c3⟩ := HX.out.cs
          by_cases hk0 : kd = 0
          · subst hk0
            have hck : TickPost 96 g site n s t now = TickPost 96 g site n s t now := rfl
            have htk := fun W (h : Clk W g 96 site n s t) => cktick_c h now HT0.out.1 (by have := HT0.out; have := HJM.out; omega) HNE.out
            have hrt := fun W (h : Clk W gr 84 site n s t) => rcktick_c h now HT0.out.1 (by have := HT0.out; have := HJM.out; omega)
            have htb : 0 ≤ (tickN n s t now site).2.2 ∧ (tickN n s t now site).2.2 ≤ (j : Int) + 1 := by
              have := HT0.out
              unfold tickN
              split <;> simp <;> omega
            unfold TickPost at htk hrt
            clear hck
            obtain ⟨⟨⟨p, q⟩, f⟩, hxx⟩ : ∃ r, snext n s now site = r := ⟨_, rfl⟩
            obtain ⟨⟨n', s', t'⟩, htn⟩ : ∃ r, tickN n s t now site = r := ⟨_, rfl⟩
            simp only [hxx, htn] at htk hrt htb
            have HTK := Lib.hid htk
            have HRT := Lib.hid hrt
            have HTB := Lib.hid htb
            clear htk hrt htb hxx htn
            have hEN := stamp_neq
            have hEG := stamp_eqg
            have hff : (f != f) = false := by simp
            go_upto_region 12 with (go_at_call 43; (with_reducible refine (HTK.out _ HC.out).mono ?_); rintro e4 w4 ⟨rfl, hk4, hb4⟩)
            have hB4 := HB3.out.trans (hb4.base HG.out HB3.out.size)
            have HB4 := Lib.hid (hB4.alloc hB4.size (.cells #[.int .i64 p, .int .i64 q] 66))
            have HR4 := Lib.hid ((HR.out.but hb4 (Ne.symm HGR.out.2)).alloc (.cells #[.int .i64 p, .int .i64 q] 66))
            have HX4 := Lib.hid ((HX.out.but hb4 HXN.out.1).alloc (.cells #[.int .i64 p, .int .i64 q] 66))
            have HC4 := Lib.hid (hk4.alloc (.cells #[.int .i64 p, .int .i64 q] 66))
            have hs4 := Pair.new w4 66 p q
            have HS4 := Lib.hid (show w4.heap.size ≠ gr from by have := HR.out.lt; have := hb4.size; omega)
            obtain ⟨gs, hgs⟩ : ∃ q, w4.heap.size = q := ⟨_, rfl⟩
            rw [hgs] at hs4 HS4 ⊢
            have HY4 := Lib.hid hs4
            clear hs4 hgs hB4 hb4 hk4 c0 c1 c2 c3
            generalize w4.alloc (.cells #[.int .i64 p, .int .i64 q] 66) = W4 at *
            obtain ⟨c0, c1, c2, c3⟩ := HX4.out.cs
            go_upto_region 13 with (go_at_call 44; (with_reducible refine (HRT.out _ HR4.out).mono ?_); rintro e5 w5 ⟨rfl, hk5, hb5⟩)
            have hB5 := HB4.out.trans (hb5.base HGR.out.1 HB4.out.size)
            have HB5 := Lib.hid (hB5.alloc hB5.size (.cells #[.int .i64 p, .int .i64 q] 66))
            have HC5 := Lib.hid ((HC4.out.but hb5 HGR.out.2).alloc (.cells #[.int .i64 p, .int .i64 q] 66))
            have HX5 := Lib.hid ((HX4.out.but hb5 HXN.out.2).alloc (.cells #[.int .i64 p, .int .i64 q] 66))
            have HR5 := Lib.hid (hk5.alloc (.cells #[.int .i64 p, .int .i64 q] 66))
            have HY5 := Lib.hid ((HY4.out.but hb5 HS4.out).alloc (.cells #[.int .i64 p, .int .i64 q] 66))
            have hs5 := Pair.new w5 66 p q
            obtain ⟨gu, hgu⟩ : ∃ q, w5.heap.size = q := ⟨_, rfl⟩
            rw [hgu] at hs5 ⊢
            have HU5 := Lib.hid hs5
            clear hs5 hgu hB5 hb5 hk5 c0 c1 c2 c3
            generalize w5.alloc (.cells #[.int .i64 p, .int .i64 q] 66) = W5 at *
            obtain ⟨c0, c1, c2, c3⟩ := HX5.out.cs
            have s0 := HY5.out.c0
            have s1 := HY5.out.c1
            have u0 := HU5.out.c0
            have u1 := HU5.out.c1
            go_upto_region 18 with (fail)
            clear s0 s1 u0 u1 c0 c1 c2 c3 hff
            clear HB3 HC HR HX HB4 HC4 HR4 HX4 HY4 HY5 HU5 HTK HRT
            obtain ⟨c0, c1, c2, c3⟩ := HX5.out.cs
            obtain ⟨⟨⟨p6, q6⟩, f6⟩, hx6⟩ : ∃ r, snext n' s' now site = r := ⟨_, rfl⟩
            have hpk := fun W (h : Clk W g 96 site n' s' t') => ckpeek_c h now HNE.out
            have hrp := fun W (h : Clk W gr 84 site n' s' t') => rckpeek_c h now
            simp only [hx6] at hpk hrp
            have HPK := Lib.hid hpk
            have HRP := Lib.hid hrp
            clear hpk hrp hx6
            go_upto_region 19 with (go_at_call 47; (with_reducible refine (HPK.out _ HC5.out).mono ?_); rintro e6 w6 ⟨rfl, hb6⟩)
            have hb7 := hb6.trans ((alloc_below w6 (.cells #[.int .i64 p6, .int .i64 q6] 66)).mono hb6.size)
            have HB7 := Lib.hid (HB5.out.trans (hb7.mono HB5.out.size))
            have HC7 := Lib.hid (HC5.out.kept hb7)
            have HR7 := Lib.hid (HR5.out.kept hb7)
            have HX7 := Lib.hid (HX5.out.kept hb7)
            have hs7 := Pair.new w6 66 p6 q6
            obtain ⟨g7, hg7⟩ : ∃ q, w6.heap.size = q := ⟨_, rfl⟩
            rw [hg7] at hs7 ⊢
            have HY7 := Lib.hid hs7
            clear hs7 hg7 hb7 hb6 c0 c1 c2 c3
            generalize w6.alloc (.cells #[.int .i64 p6, .int .i64 q6] 66) = W7 at *
            obtain ⟨c0, c1, c2, c3⟩ := HX7.out.cs
            go_upto_region 20 with (go_at_call 48; (with_reducible refine (HRP.out _ HR7.out).mono ?_); rintro e8 w8 ⟨rfl, hb8⟩)
            have hb9 := hb8.trans ((alloc_below w8 (.cells #[.int .i64 p6, .int .i64 q6] 66)).mono hb8.size)
            have HB9 := Lib.hid (HB7.out.trans (hb9.mono HB7.out.size))
            have HC9 := Lib.hid (HC7.out.kept hb9)
            have HR9 := Lib.hid (HR7.out.kept hb9)
            have HY9 := Lib.hid (HY7.out.kept hb9)
            have hs9 := Pair.new w8 66 p6 q6
            obtain ⟨g9, hg9⟩ : ∃ q, w8.heap.size = q := ⟨_, rfl⟩
            rw [hg9] at hs9 ⊢
            have HU9 := Lib.hid hs9
            clear hs9 hg9 hb9 hb8 c0 c1 c2 c3
            generalize w8.alloc (.cells #[.int .i64 p6, .int .i64 q6] 66) = W9 at *
            have k0 := cell_regrown HY9.out.c0
            have k1 := cell_regrown HY9.out.c1
            have k2 := cell_regrown HU9.out.c0
            have k3 := cell_regrown HU9.out.c1
            have k4 := cell_regrown HR9.out.cs.2.1
            have k5 := cell_regrown HR9.out.cs.2.2.1
            have k6 := cell_regrown HR9.out.cs.2.2.2
            have HLA := Lib.hid (fun (d : Nat) (os : Array Obj) => (cklast_c (HC9.out.kept (below_regrown W9 d os)) HNE.out).regrown_of)
            have HTO := Lib.hid (fun (d : Nat) (os : Array Obj) => (cktold_c (HC9.out.kept (below_regrown W9 d os)) HNE.out).regrown_of)
            have hEN9 := stamp_neq
            have hEG9 := stamp_eqg
            have hf6 : (f6 != f6) = false := by simp
            have ht6 : (t' != t') = false := by simp
            go_wp2
            refine wp_region_quiet_below (by kernel_rfl) (by kernel_rfl) ?_
            repeat (go_big_quiet_step (first | with_reducible exact HLA.out _ _ | with_reducible exact HTO.out _ _))
            refine wpQuiet_nil ?_
            intro _ hw'
            obtain ⟨⟨dq, osq⟩, hw''⟩ := hw'
            subst hw''
            have hbq := below_regrown W9 dq osq
            have HBq := Lib.hid (HB9.out.trans (hbq.mono HB9.out.size))
            have HCq := Lib.hid (HC9.out.kept hbq)
            have HRq := Lib.hid (HR9.out.kept hbq)
            clear hbq k0 k1 k2 k3 k4 k5 k6
            generalize grow (redrawn W9 dq) osq = Wq at *
            go_wp2
            go_roundw
            case rel => exact ⟨j + 1, n', s', t', by have := HJM.out; omega, by go_num, HCq.out, HRq.out, HTB.out.1, by have := HTB.out.2; omega, HBq.out⟩
            case measure => have := HJM.out; simp [intOf]; omega
          · have e0 : (kd == 0) = false := by simpa using hk0
            by_cases hk1 : kd = 1
            · subst hk1
              have HFE := Lib.hid (show ∃ f, (if sgood x y = true then (0 : Int) else 2) = f from ⟨_, rfl⟩)
              have hmt := fun W (h : Clk W g 96 site n s t) => ckmeet_c h HNE.out x y
              have hmr := fun W (h : Clk W gr 84 site n s t) => rckmeet_c h x y
              unfold MeetPost at hmt hmr
              obtain ⟨f, hf⟩ := HFE.out
              obtain ⟨⟨p, q⟩, hpq⟩ : ∃ r, meetN n s x y = r := ⟨_, rfl⟩
              simp only [hf, hpq] at hmt hmr
              have HMT := Lib.hid hmt
              have HMR := Lib.hid hmr
              have hff : (f != f) = false := by simp
              clear hmt hmr hf hpq HFE hk0
              go_upto_region 16 with (fail)
              clear c0 c1 c2 c3
              refine wp_region_inv [none, none, none, none, none, none, none, none, none, none, none, none, none, none, none, none, none, none, none, none, none, none, none, none, none, none, none, none, none, none, none, none, none, none, none, none, none, none, none, none, none, none, none, none, none, none, none, none, none, none, none, none, none, none, none, none, none, none, none, none, none, none, none, none, none, none, none, none, none, none, none, none, none, none, none, none, none, none, none, none, none, none, none, none, none, none, none, none, none, none, none, none, none, none, none, none, none, none, none, none, none, none, none, some 0, some 1, some 2, some 3, some 4, some 5, some 6, some 7, some 8, none, none, none, none, none, none, none, none, none, none, none, none, none, none, none, none, none, none, none, none, none, none, none, none, none, none, none, none, none, none, none, none, none, none, none, none, none, none, none, none, none] (fun i => [u103, u104, u105, u106, u107, u108, u109, u110, u111].getD i undef) (InvQ [3, 7] 9 (fun i v => v = [.pointer (some ⟨g, 0, none⟩), .pointer (some ⟨gx, 2, none⟩), .agg #[.int .i64 x, .int .i64 y], .int .i64 f, .pointer (some ⟨gr, 0, none⟩), .pointer (some ⟨gx, 2, none⟩), .agg #[.int .i64 x, .int .i64 y], .int .i64 f, .bool false].getD i undef) (MtR w g gr gx site n s p q t 1 now x y)) (by kernel_rfl) (by kernel_rfl) rfl rfl (fun L hL => InvQ.start hL (by decide) (by decide) (MtA.drawn ⟨HC.out, HR.out, HX.out, HB3.out⟩)) ?_ ?_
              · simp only [invOps, and_true]
                refine ⟨?_, ?_, ?_, ?_, ?_, ?_, ?_, ?_, ?_⟩
                · intro L xs W hI hL hn
                  simp only [flowAct, List.zipWith_cons_cons, List.zipWith_nil_left]
                  go_wp2_with (fail)
                  exact ⟨rfl, _, rfl, hI.pure 0 (by decide) (fun _ h => h) rfl⟩
                · intro L xs W hI hL hn
                  simp only [flowAct, List.zipWith_cons_cons, List.zipWith_nil_left]
                  go_wp2_with (fail)
                  exact ⟨rfl, _, rfl, hI.pure 1 (by decide) (fun _ h => h) rfl⟩
                · intro L xs W hI hL hn
                  simp [invNeeds, Region.binds] at hn
                  have e1 : xs 1 = .pointer (some ⟨gx, 2, none⟩) := hI.val 1 (by decide) (by simp only [hn])
                  obtain ⟨k9, -, hr9⟩ := hI.any
                  obtain ⟨c0, c1, c2, c3⟩ := hr9.act.cs
                  clear hr9
                  simp only [flowAct, List.zipWith_cons_cons, List.zipWith_nil_left]
                  simp only [e1]
                  go_wp2_with (fail)
                  exact ⟨rfl, _, rfl, hI.pure 2 (by decide) (fun _ h => h) rfl⟩
                · intro L xs W hI hL hn
                  simp [invNeeds, Region.binds] at hn
                  have e0 : xs 0 = .pointer (some ⟨g, 0, none⟩) := hI.val 0 (by decide) (by simp only [hn])
                  have e2 : xs 2 = .agg #[.int .i64 x, .int .i64 y] := hI.val 2 (by decide) (by simp only [hn])
                  have hA : MtA w g gr gx site n s n s t 1 now x y W := hI.at 0 rfl hL (fun p hp => absurd hp.1 (by omega))
                  have HA := Lib.hid hA
                  clear hA
                  simp only [flowAct, List.zipWith_cons_cons, List.zipWith_nil_left]
                  simp only [e0, e2]
                  go_wp2_with (go_at_call 45; (with_reducible refine (HMT.out _ HA.out.c).mono ?_); rintro e9 w9 ⟨rfl, hk9, hb9⟩)
                  exact ⟨rfl, _, rfl, hI.step 0 rfl hL (fun p hp => absurd hp.1 (by omega)) (by decide) (show MtA w g gr gx site p q n s t 1 now x y w9 from ⟨hk9, HA.out.r.but hb9 (Ne.symm HGR.out.2), HA.out.a.but hb9 HXN.out.1, HA.out.b.trans (hb9.base HG.out HA.out.b.size)⟩) rfl⟩
                · intro L xs W hI hL hn
                  simp only [flowAct, List.zipWith_cons_cons, List.zipWith_nil_left]
                  go_wp2_with (fail)
                  exact ⟨rfl, _, rfl, hI.pure 4 (by decide) (fun _ h => h) rfl⟩
                · intro L xs W hI hL hn
                  simp only [flowAct, List.zipWith_cons_cons, List.zipWith_nil_left]
                  go_wp2_with (fail)
                  exact ⟨rfl, _, rfl, hI.pure 5 (by decide) (fun _ h => h) rfl⟩
                · intro L xs W hI hL hn
                  simp [invNeeds, Region.binds] at hn
                  have e5 : xs 5 = .pointer (some ⟨gx, 2, none⟩) := hI.val 5 (by decide) (by simp only [hn])
                  obtain ⟨k9, -, hr9⟩ := hI.any
                  obtain ⟨c0, c1, c2, c3⟩ := hr9.act.cs
                  clear hr9
                  simp only [flowAct, List.zipWith_cons_cons, List.zipWith_nil_left]
                  simp only [e5]
                  go_wp2_with (fail)
                  exact ⟨rfl, _, rfl, hI.pure 6 (by decide) (fun _ h => h) rfl⟩
                · intro L xs W hI hL hn
                  simp [invNeeds, Region.binds] at hn
                  have e4 : xs 4 = .pointer (some ⟨gr, 0, none⟩) := hI.val 4 (by decide) (by simp only [hn])
                  have e6 : xs 6 = .agg #[.int .i64 x, .int .i64 y] := hI.val 6 (by decide) (by simp only [hn])
                  have h3 : L 3 = true := by simp only [hn]
                  have hA : MtA w g gr gx site p q n s t 1 now x y W := hI.at 1 rfl hL (fun p hp => by obtain ⟨-, h⟩ := hp; injection h with h; subst h; exact h3)
                  have HA := Lib.hid hA
                  clear hA
                  simp only [flowAct, List.zipWith_cons_cons, List.zipWith_nil_left]
                  simp only [e4, e6]
                  go_wp2_with (go_at_call 46; (with_reducible refine (HMR.out _ HA.out.r).mono ?_); rintro e9 w9 ⟨rfl, hk9, hb9⟩)
                  exact ⟨rfl, _, rfl, hI.step 1 rfl hL (fun p hp => by obtain ⟨-, h⟩ := hp; injection h with h; subst h; exact h3) (by decide) (show MtA w g gr gx site p q p q t 1 now x y w9 from ⟨HA.out.c.but hb9 HGR.out.2, hk9, HA.out.a.but hb9 HXN.out.2, HA.out.b.trans (hb9.base HGR.out.1 HA.out.b.size)⟩) rfl⟩
                · intro L xs W hI hL hn
                  simp [invNeeds, Region.binds] at hn
                  have e3 : xs 3 = .int .i64 f := hI.val 3 (by decide) (by simp only [hn])
                  have e7 : xs 7 = .int .i64 f := hI.val 7 (by decide) (by simp only [hn])
                  simp only [flowAct, List.zipWith_cons_cons, List.zipWith_nil_left]
                  simp only [e3, e7]
                  go_wp2_with (fail)
                  exact ⟨rfl, _, rfl, hI.pure 8 (by decide) (fun _ h => h) rfl⟩
              · intro L xs W6 hI hL
                obtain ⟨hA, hv⟩ := hI.done hL (by decide) (by decide)
                have hA : MtA w g gr gx site p q p q t 1 now x y W6 := hA
                have e8 : xs 8 = .bool false := hv 8 (by decide)
                have HC6 := Lib.hid hA.c
                have HR6 := Lib.hid hA.r
                have HX6 := Lib.hid hA.a
                have HB6 := Lib.hid hA.b
                have HTB := Lib.hid (show 0 ≤ t ∧ t ≤ (j : Int) + 1 from by have := HT0.out; omega)
                clear hI hL hA hv HB3 HC HR HX
                simp only [flowAct, List.zipWith_cons_cons, List.zipWith_nil_left]
                simp only [e8]
                clear e8
                go_upto_region 18 with (fail)
                obtain ⟨c0, c1, c2, c3⟩ := HX6.out.cs
                obtain ⟨⟨⟨p6, q6⟩, f6⟩, hx6⟩ : ∃ r, snext p q now site = r := ⟨_, rfl⟩
                have hpk := fun W (h : Clk W g 96 site p q t) => ckpeek_c h now HNE.out
                have hrp := fun W (h : Clk W gr 84 site p q t) => rckpeek_c h now
                simp only [hx6] at hpk hrp
                have HPK := Lib.hid hpk
                have HRP := Lib.hid hrp
                clear hpk hrp hx6
                go_upto_region 19 with (go_at_call 47; (with_reducible refine (HPK.out _ HC6.out).mono ?_); rintro e6 w6 ⟨rfl, hb6⟩)
                have hb7 := hb6.trans ((alloc_below w6 (.cells #[.int .i64 p6, .int .i64 q6] 66)).mono hb6.size)
                have HB7 := Lib.hid (HB6.out.trans (hb7.mono HB6.out.size))
                have HC7 := Lib.hid (HC6.out.kept hb7)
                have HR7 := Lib.hid (HR6.out.kept hb7)
                have HX7 := Lib.hid (HX6.out.kept hb7)
                have hs7 := Pair.new w6 66 p6 q6
                obtain ⟨g7, hg7⟩ : ∃ q, w6.heap.size = q := ⟨_, rfl⟩
                rw [hg7] at hs7 ⊢
                have HY7 := Lib.hid hs7
                clear hs7 hg7 hb7 hb6 c0 c1 c2 c3
                generalize w6.alloc (.cells #[.int .i64 p6, .int .i64 q6] 66) = W7 at *
                obtain ⟨c0, c1, c2, c3⟩ := HX7.out.cs
                go_upto_region 20 with (go_at_call 48; (with_reducible refine (HRP.out _ HR7.out).mono ?_); rintro e8 w8 ⟨rfl, hb8⟩)
                have hb9 := hb8.trans ((alloc_below w8 (.cells #[.int .i64 p6, .int .i64 q6] 66)).mono hb8.size)
                have HB9 := Lib.hid (HB7.out.trans (hb9.mono HB7.out.size))
                have HC9 := Lib.hid (HC7.out.kept hb9)
                have HR9 := Lib.hid (HR7.out.kept hb9)
                have HY9 := Lib.hid (HY7.out.kept hb9)
                have hs9 := Pair.new w8 66 p6 q6
                obtain ⟨g9, hg9⟩ : ∃ q, w8.heap.size = q := ⟨_, rfl⟩
                rw [hg9] at hs9 ⊢
                have HU9 := Lib.hid hs9
                clear hs9 hg9 hb9 hb8 c0 c1 c2 c3
                generalize w8.alloc (.cells #[.int .i64 p6, .int .i64 q6] 66) = W9 at *
                have k0 := cell_regrown HY9.out.c0
                have k1 := cell_regrown HY9.out.c1
                have k2 := cell_regrown HU9.out.c0
                have k3 := cell_regrown HU9.out.c1
                have k4 := cell_regrown HR9.out.cs.2.1
                have k5 := cell_regrown HR9.out.cs.2.2.1
                have k6 := cell_regrown HR9.out.cs.2.2.2
                have HLA := Lib.hid (fun (d : Nat) (os : Array Obj) => (cklast_c (HC9.out.kept (below_regrown W9 d os)) HNE.out).regrown_of)
                have HTO := Lib.hid (fun (d : Nat) (os : Array Obj) => (cktold_c (HC9.out.kept (below_regrown W9 d os)) HNE.out).regrown_of)
                have hEN9 := stamp_neq
                have hEG9 := stamp_eqg
                have hf6 : (f6 != f6) = false := by simp
                have ht6 : (t != t) = false := by simp
                go_wp2
                refine wp_region_quiet_below (by kernel_rfl) (by kernel_rfl) ?_
                repeat (go_big_quiet_step (first | with_reducible exact HLA.out _ _ | with_reducible exact HTO.out _ _))
                refine wpQuiet_nil ?_
                intro _ hw'
                obtain ⟨⟨dq, osq⟩, hw''⟩ := hw'
                subst hw''
                have hbq := below_regrown W9 dq osq
                have HBq := Lib.hid (HB9.out.trans (hbq.mono HB9.out.size))
                have HCq := Lib.hid (HC9.out.kept hbq)
                have HRq := Lib.hid (HR9.out.kept hbq)
                clear hbq k0 k1 k2 k3 k4 k5 k6
                generalize grow (redrawn W9 dq) osq = Wq at *
                go_wp2
                go_roundw
                case rel => exact ⟨j + 1, p, q, t, by have := HJM.out; omega, by go_num, HCq.out, HRq.out, HTB.out.1, by have := HTB.out.2; omega, HBq.out⟩
                case measure => have := HJM.out; simp [intOf]; omega
            · have e1 : (kd == 1) = false := by simpa using hk1
              clear hk0 hk1
              go_upto_region 18 with (fail)
              clear c0 c1 c2 c3 e0 e1
              have HTB := Lib.hid (show 0 ≤ t ∧ t ≤ (j : Int) + 1 from by have := HT0.out; omega)
              obtain ⟨c0, c1, c2, c3⟩ := HX.out.cs
              obtain ⟨⟨⟨p6, q6⟩, f6⟩, hx6⟩ : ∃ r, snext n s now site = r := ⟨_, rfl⟩
              have hpk := fun W (h : Clk W g 96 site n s t) => ckpeek_c h now HNE.out
              have hrp := fun W (h : Clk W gr 84 site n s t) => rckpeek_c h now
              simp only [hx6] at hpk hrp
              have HPK := Lib.hid hpk
              have HRP := Lib.hid hrp
              clear hpk hrp hx6
              go_upto_region 19 with (go_at_call 47; (with_reducible refine (HPK.out _ HC.out).mono ?_); rintro e6 w6 ⟨rfl, hb6⟩)
              have hb7 := hb6.trans ((alloc_below w6 (.cells #[.int .i64 p6, .int .i64 q6] 66)).mono hb6.size)
              have HB7 := Lib.hid (HB3.out.trans (hb7.mono HB3.out.size))
              have HC7 := Lib.hid (HC.out.kept hb7)
              have HR7 := Lib.hid (HR.out.kept hb7)
              have HX7 := Lib.hid (HX.out.kept hb7)
              have hs7 := Pair.new w6 66 p6 q6
              obtain ⟨g7, hg7⟩ : ∃ q, w6.heap.size = q := ⟨_, rfl⟩
              rw [hg7] at hs7 ⊢
              have HY7 := Lib.hid hs7
              clear hs7 hg7 hb7 hb6 c0 c1 c2 c3
              generalize w6.alloc (.cells #[.int .i64 p6, .int .i64 q6] 66) = W7 at *
              obtain ⟨c0, c1, c2, c3⟩ := HX7.out.cs
              go_upto_region 20 with (go_at_call 48; (with_reducible refine (HRP.out _ HR7.out).mono ?_); rintro e8 w8 ⟨rfl, hb8⟩)
              have hb9 := hb8.trans ((alloc_below w8 (.cells #[.int .i64 p6, .int .i64 q6] 66)).mono hb8.size)
              have HB9 := Lib.hid (HB7.out.trans (hb9.mono HB7.out.size))
              have HC9 := Lib.hid (HC7.out.kept hb9)
              have HR9 := Lib.hid (HR7.out.kept hb9)
              have HY9 := Lib.hid (HY7.out.kept hb9)
              have hs9 := Pair.new w8 66 p6 q6
              obtain ⟨g9, hg9⟩ : ∃ q, w8.heap.size = q := ⟨_, rfl⟩
              rw [hg9] at hs9 ⊢
              have HU9 := Lib.hid hs9
              clear hs9 hg9 hb9 hb8 c0 c1 c2 c3
              generalize w8.alloc (.cells #[.int .i64 p6, .int .i64 q6] 66) = W9 at *
              have k0 := cell_regrown HY9.out.c0
              have k1 := cell_regrown HY9.out.c1
              have k2 := cell_regrown HU9.out.c0
              have k3 := cell_regrown HU9.out.c1
              have k4 := cell_regrown HR9.out.cs.2.1
              have k5 := cell_regrown HR9.out.cs.2.2.1
              have k6 := cell_regrown HR9.out.cs.2.2.2
              have HLA := Lib.hid (fun (d : Nat) (os : Array Obj) => (cklast_c (HC9.out.kept (below_regrown W9 d os)) HNE.out).regrown_of)
              have HTO := Lib.hid (fun (d : Nat) (os : Array Obj) => (cktold_c (HC9.out.kept (below_regrown W9 d os)) HNE.out).regrown_of)
              have hEN9 := stamp_neq
              have hEG9 := stamp_eqg
              have hf6 : (f6 != f6) = false := by simp
              have ht6 : (t != t) = false := by simp
              go_wp2
              refine wp_region_quiet_below (by kernel_rfl) (by kernel_rfl) ?_
              repeat (go_big_quiet_step (first | with_reducible exact HLA.out _ _ | with_reducible exact HTO.out _ _))
              refine wpQuiet_nil ?_
              intro _ hw'
              obtain ⟨⟨dq, osq⟩, hw''⟩ := hw'
              subst hw''
              have hbq := below_regrown W9 dq osq
              have HBq := Lib.hid (HB9.out.trans (hbq.mono HB9.out.size))
              have HCq := Lib.hid (HC9.out.kept hbq)
              have HRq := Lib.hid (HR9.out.kept hbq)
              clear hbq k0 k1 k2 k3 k4 k5 k6
              generalize grow (redrawn W9 dq) osq = Wq at *
              go_wp2
              go_roundw
              case rel => exact ⟨j + 1, n, s, t, by have := HJM.out; omega, by go_num, HCq.out, HRq.out, HTB.out.1, by have := HTB.out.2; omega, HBq.out⟩
              case measure => have := HJM.out; simp [intOf]; omega
        · obtain rfl : j = m := by omega
          have HB3 := Lib.hid hB
          clear hc hr ht0 ht1 hB
          go_wp2_with (go_at_call 42; (with_reducible refine (cklives_c _).mono ?_); rintro e8 w8 ⟨rfl, hb8⟩)
          go_ret
          exact ⟨rfl, HB3.out.trans (hb8.mono HB3.out.size)⟩
    · go_wp2_with (go_at_call 42; (with_reducible refine (cklives_c _).mono ?_); rintro e8 w8 ⟨rfl, hb8⟩)
      go_ret
      exact ⟨rfl, HB3.out.trans (hb8.mono HB3.out.size)⟩
end Go.Proofs.Ytpndpmgbnnpciaa
