/-
  Join: the walk of JoinDeletes.
-/
import Derived.Test.YtkjpmdpljdgcjaaYV
import Derived.Test.YtkjpmdpljdgcjaaYK
namespace Go.Proofs.Ytkjpmdpljdgcjaa
open Go.RowKit Go Go.Sort
set_option linter.unusedVariables false
set_option maxRecDepth 20000

theorem prs_at {w : World} {a : Option Addr} {n cap : Nat} {l : List (Int × Int)} (h : Prs w a n cap l) {k : Nat} (hk : k < n) :
    ∃ b off, a = some ⟨b, off, none⟩ ∧ ∀ W, Below w.heap.size w W → W.cell? ⟨b, off + k * 2, none⟩ = some (.int .i64 (l.getD k (0, 0)).1) ∧ W.cell? ⟨b, off + k * 2 + 1, none⟩ = some (.int .i64 (l.getD k (0, 0)).2) := by
  have := h.le
  rcases h.adr with h4 | ⟨b, off, rfl, hc⟩
  · omega
  · exact ⟨b, off, rfl, fun W hb => ⟨(hb.cell (World.block_lt_of_cell? w _ (hc k hk).1)).trans (hc k hk).1, (hb.cell (World.block_lt_of_cell? w _ (hc k hk).2)).trans (hc k hk).2⟩⟩
theorem bool3 (k p q : Bool) : ((k && p) && q) = (k && (p && q)) := by cases k <;> rfl

set_option maxRecDepth 100000 in
set_option maxHeartbeats 6400000 in
theorem jdel_walk {w : World} {x x2 : Option Addr} {m cap m2 cap2 : Nat} {l : List Cl} {vs : List (Int × Int)} (hl : Cls w x m cap l) (hs : ∀ c ∈ l, c.t.length ≤ 9223372036854775807) (hv : Prs w x2 m2 cap2 vs) (hsum : m + m2 ≤ 9223372036854775807) :
    Calls Try.prog 8 #[.slice x m cap, .slice x2 m2 cap2] w (Tells (.bool true) w) := by
  have HLv := Lib.hid jlives_c
  have HL := Lib.hid hl
  have HV := Lib.hid hv
  have hln := hl.len
  have hle := hl.le
  have hmax := hl.max
  have hle2 := hv.le
  have hmax2 := hv.max
  have hsi : (m : Int) + (m2 : Int) ≤ 9223372036854775807 := by omega
  clear hl hv
  by_cases hm : 60 < m + m2
  · have hmi : (60 : Int) < (m : Int) + (m2 : Int) := by omega
    go_enter Try.func8, Try.ntmps8
    go_wp2_with (go_at_call 10; (with_reducible refine (HLv.out _).mono ?_); rintro e9 w9 ⟨rfl, hb9⟩)
    go_ret
    exact ⟨rfl, hb9⟩
  · have hmi : ¬ (60 : Int) < (m : Int) + (m2 : Int) := by omega
    have ho := (zeros w).alloc (.cells #[.int .i64 0, .int .i64 0, .int .i64 0, .int .i64 0, .bool false, .string ⟨#[]⟩, .int .i64 0, .int .i64 0] 27)
    have hq := zeros (w.alloc (.cells #[.int .i64 0, .int .i64 0, .int .i64 0, .int .i64 0, .bool false, .string ⟨#[]⟩, .int .i64 0, .int .i64 0] 27))
    simp only [World.size_alloc] at hq
    have hb := (alloc_below w (.cells #[.int .i64 0, .int .i64 0, .int .i64 0, .int .i64 0, .bool false, .string ⟨#[]⟩, .int .i64 0, .int .i64 0] 27)).alloc (by simp) (.cells #[.int .i64 0, .int .i64 0, .int .i64 0, .int .i64 0, .bool false, .string ⟨#[]⟩, .int .i64 0, .int .i64 0] 27)
    go_enter Try.func8, Try.ntmps8
    go_upto_region 5 with (fail)
    obtain ⟨B, hB⟩ : ∃ q, w.heap.size = q := ⟨_, rfl⟩
    have HBe := Lib.hid hB
    have HB0 := Lib.hid hb
    rw [hB] at ho hq ⊢
    clear hB hb
    generalize (w.alloc (.cells #[.int .i64 0, .int .i64 0, .int .i64 0, .int .i64 0, .bool false, .string ⟨#[]⟩, .int .i64 0, .int .i64 0] 27)).alloc (.cells #[.int .i64 0, .int .i64 0, .int .i64 0, .int .i64 0, .bool false, .string ⟨#[]⟩, .int .i64 0, .int .i64 0] 27) = W1 at *
    have HO := Lib.hid ho
    have HQ := Lib.hid hq
    clear ho hq
    go_wp2
    go_loopw [27] (fun i wr => ∃ (k : Nat) (J : Cl), k ≤ m ∧ i = .int .i64 k ∧ J.good 2 = true ∧ J.d = 0 ∧ J.e = 0 ∧ CelC wr B J ∧ CelC wr (B + 1) J ∧ Below w.heap.size w wr) (fun i _ => m - (intOf i).toNat)
    case atStart => exact ⟨0, Cl.zero, by omega, rfl, good_zero (.inr rfl), rfl, rfl, HO.out, HQ.out, HB0.out⟩
    case round =>
      clear HO HQ HB0
      obtain ⟨k, J, hk, rfl, hJg, hJd, hJe, hA, hL, hB⟩ := hrel
      obtain ⟨n, s, a, b, g, t, d, e⟩ := J
      obtain rfl : d = 0 := hJd
      obtain rfl : e = 0 := hJe
      by_cases hlt : k < m
      · have hki : (k : Int) < (m : Int) := by omega
        have hki2 : (k : Int) < (cap : Int) := by omega
        obtain ⟨bk, off, rfl, hat⟩ := HL.out.at hlt
        have hyl := hs _ (mem_getD (l := l) (k := k) (by omega))
        obtain ⟨y, hy⟩ : ∃ y, l.getD k Cl.zero = y := ⟨_, rfl⟩
        rw [hy] at hat hyl
        obtain ⟨n', s', a', b', g', t', d', e'⟩ := y
        obtain ⟨p0, p1, p2, p3, p4, p5, p6, p7⟩ := hat wr hB
        simp only at p0 p1 p2 p3 p4 p5 p6 p7 hyl
        have hC := fun W => cgood_c 2 n' s' a' b' g' t' 0 0 hyl W
        have HB := Lib.hid hB
        have HA := Lib.hid (show Cel wr B n s a b g t 0 0 from hA)
        have HQ := Lib.hid (show Cel wr (B + 1) n s a b g t 0 0 from hL)
        have HJG := Lib.hid hJg
        clear hat hy hB hA hL hJg
        go_upto_region 8 with (fail)
        have hx2 := Cel.new wr n' s' a' b' g' t' d' e'
        have HB2 := Lib.hid (HB.out.alloc HB.out.size (.cells #[.int .i64 n', .int .i64 s', .int .i64 a', .int .i64 b', .bool g', .string (text t'), .int .i64 d', .int .i64 e'] 27))
        have HA2 := Lib.hid (HA.out.alloc (.cells #[.int .i64 n', .int .i64 s', .int .i64 a', .int .i64 b', .bool g', .string (text t'), .int .i64 d', .int .i64 e'] 27))
        have HQ2 := Lib.hid (HQ.out.alloc (.cells #[.int .i64 n', .int .i64 s', .int .i64 a', .int .i64 b', .bool g', .string (text t'), .int .i64 d', .int .i64 e'] 27))
        obtain ⟨gx, hgx⟩ : ∃ g, wr.heap.size = g := ⟨_, rfl⟩
        have HGX := Lib.hid (show B + 1 < gx by have := HQ.out.lt; omega)
        rw [hgx] at hx2 ⊢
        generalize wr.alloc (.cells #[.int .i64 n', .int .i64 s', .int .i64 a', .int .i64 b', .bool g', .string (text t'), .int .i64 d', .int .i64 e'] 27) = W2 at *
        obtain ⟨k0, k1, k2, k3, k4, k5, k6, k7⟩ := hx2.cs
        have kfz := hx2.fz
        have HX2 := Lib.hid hx2
        clear hx2 p0 p1 p2 p3 p4 p5 p6 p7 HB HA HQ hgx
        go_upto_region 9 with (fail)
        have hw := Wrote.of_dead n' s' a' b' g' t' d' e' (Below.refl _ W2) HX2.out 0 0
        have HA3 := Lib.hid (hw.cel HA2.out (by have := HGX.out; omega))
        have HQ3 := Lib.hid (hw.cel HQ2.out (by have := HGX.out; omega))
        have HX3 := Lib.hid (HX2.out.dead 0 0)
        have HB3 := Lib.hid (HB2.out.trans (hw.below (by have := HGX.out; have := HBe.out; omega) (Nat.le_of_lt HX2.out.lt)))
        clear hw HA2 HQ2 HX2 HB2 k0 k1 k2 k3 k4 k5 k6 k7 kfz
        generalize (W2.setCell ⟨gx, 6, none⟩ (.int .i64 0)).setCell ⟨gx, 7, none⟩ (.int .i64 0) = W3 at *
        obtain ⟨k0, k1, k2, k3, k4, k5, k6, k7⟩ := HX3.out.cs
        cases hb : cgoodS 2 n' s' a' b' g' t' 0 0 with
        | false =>
          rw [hb] at hC
          have HC := Lib.hid hC
          clear hC hb
          go_wp2_with (first
            | (go_at_call 20; (with_reducible refine (HC.out _).mono ?_); rintro e9 w3 ⟨rfl, hb3⟩)
            | (go_at_call 10; (with_reducible refine (HLv.out _).mono ?_); rintro e9 w4 ⟨rfl, hb4⟩))
          go_ret
          exact ⟨rfl, (HB3.out.trans (hb3.mono HB3.out.size)).trans (hb4.mono (Nat.le_trans HB3.out.size hb3.size))⟩
        | true =>
          rw [hb] at hC
          have HC := Lib.hid hC
          have hyg : (⟨n', s', a', b', g', t', 0, 0⟩ : Cl).good 2 = true := hb
          have htb := two_bare (x := ⟨n, s, a, b, g, t, 0, 0⟩) (y := ⟨n', s', a', b', g', t', 0, 0⟩) ⟨rfl, rfl⟩ ⟨rfl, rfl⟩
          have htg := good_two HJG.out hyg
          have hjc := fun W => join_c (cls2 W n' s' a' b' g' t' 0 0 n s a b g t 0 0)
          rw [join_two (good_up hyg), two_comm] at hjc
          obtain ⟨T, hT⟩ : ∃ z, twoS ⟨n, s, a, b, g, t, 0, 0⟩ ⟨n', s', a', b', g', t', 0, 0⟩ = z := ⟨_, rfl⟩
          rw [hT] at hjc htb htg
          obtain ⟨n'', s'', a'', b'', g'', t'', d'', e''⟩ := T
          obtain ⟨ht1, ht2, ht3⟩ := htb
          obtain rfl : d'' = 0 := ht2
          obtain rfl : e'' = 0 := ht3
          simp only [Cl.arr] at hjc
          have hlc := fun W => less_c n s a b g t 0 0 n' s' a' b' g' t' 0 0 W
          have HJC := Lib.hid hjc
          have HTG := Lib.hid htg
          clear hC hb hyg htg hjc hT
          go_upto_region 11 with (go_at_call 20; (with_reducible refine (HC.out _).mono ?_); rintro e9 w4 ⟨rfl, hb4⟩)
          have HA4 := Lib.hid (HA3.out.kept hb4)
          have HQ4 := Lib.hid (HQ3.out.kept hb4)
          have HX4 := Lib.hid (HX3.out.kept hb4)
          have HB4 := Lib.hid (HB3.out.trans (hb4.mono HB3.out.size))
          clear hb4 HA3 HQ3 HX3 HB3 k0 k1 k2 k3 k4 k5 k6 k7
          obtain ⟨k0, k1, k2, k3, k4, k5, k6, k7⟩ := HX4.out.cs
          obtain ⟨c0, c1, c2, c3, c4, c5, c6, c7⟩ := HA4.out.cs
          have hbs := Below.refl w4.heap.size w4
          go_upto_region 12 with (go_at_call 13; (with_reducible refine (HJC.out _).mono ?_); rintro e9 w5 ⟨rfl, hb5⟩; (replace hbs := (hbs.alloc hbs.size _).trans (hb5.mono (by simp))); obtain ⟨c0, c1, c2, c3, c4, c5, c6, c7⟩ := (HA4.out.kept hbs).cs; have cfz := (HA4.out.kept hbs).fz)
          have hA5 := HA4.out.kept hbs
          have hw := Wrote.of_put n s a b g t 0 0 (Below.refl _ w5) hA5 n'' s'' a'' b'' g'' t'' 0 0
          have HA6 := Lib.hid (hA5.put n'' s'' a'' b'' g'' t'' 0 0)
          have HQ6 := Lib.hid (hw.cel (HQ4.out.kept hbs) (by omega))
          have HX6 := Lib.hid (hw.cel (HX4.out.kept hbs) (by have := HGX.out; omega))
          have HB6 := Lib.hid ((HB4.out.trans (hbs.mono HB4.out.size)).trans (hw.below (by have := HBe.out; omega) (Nat.le_of_lt hA5.lt)))
          clear hbs hb5 hA5 hw HA4 HQ4 HX4 HB4 k0 k1 k2 k3 k4 k5 k6 k7 c0 c1 c2 c3 c4 c5 c6 c7 cfz
          obtain ⟨W6, hW6⟩ : ∃ W, ((((((((w5.setCell ⟨B, 0, none⟩ (.int .i64 n'')).setCell ⟨B, 1, none⟩ (.int .i64 s'')).setCell ⟨B, 2, none⟩ (.int .i64 a'')).setCell ⟨B, 3, none⟩ (.int .i64 b'')).setCell ⟨B, 4, none⟩ (.bool g'')).setCell ⟨B, 5, none⟩ (.string (text t''))).setCell ⟨B, 6, none⟩ (.int .i64 0)).setCell ⟨B, 7, none⟩ (.int .i64 0)) = W := ⟨_, rfl⟩
          rw [hW6] at HA6 HQ6 HX6 HB6 ⊢
          clear hW6
          obtain ⟨k0, k1, k2, k3, k4, k5, k6, k7⟩ := HX6.out.cs
          obtain ⟨c0, c1, c2, c3, c4, c5, c6, c7⟩ := HQ6.out.cs
          cases hls : lessS ⟨n, s, a, b, g, t, 0, 0⟩ ⟨n', s', a', b', g', t', 0, 0⟩ with
          | true =>
            rw [hls] at hlc ht1
            have HLC := Lib.hid hlc
            rw [if_pos rfl] at ht1
            injection ht1 with i1 i2 i3 i4 i5 i6
            subst i1 i2 i3 i4 i5 i6
            clear hlc hls
            go_upto_region 13 with (go_at_call 11; (with_reducible refine (HLC.out _).mono ?_); rintro e9 w7 ⟨rfl, hb7⟩)
            have HQ7 := Lib.hid (HQ6.out.kept hb7)
            have HX7 := Lib.hid (HX6.out.kept hb7)
            have HA7 := Lib.hid (HA6.out.kept hb7)
            have HB7 := Lib.hid (HB6.out.trans (hb7.mono HB6.out.size))
            clear hb7 k0 k1 k2 k3 k4 k5 k6 k7 c0 c1 c2 c3 c4 c5 c6 c7
            obtain ⟨k0, k1, k2, k3, k4, k5, k6, k7⟩ := HX7.out.cs
            obtain ⟨c0, c1, c2, c3, c4, c5, c6, c7⟩ := HQ7.out.cs
            have cfz := HQ7.out.fz
            have hw := Wrote.of_put n s a b g t 0 0 (Below.refl _ w7) HQ7.out n'' s'' a'' b'' g'' t'' 0 0
            have HA8 := Lib.hid (hw.cel HA7.out (by omega))
            have HQ8 := Lib.hid (HQ7.out.put n'' s'' a'' b'' g'' t'' 0 0)
            have HB8 := Lib.hid (HB7.out.trans (hw.below (by have := HBe.out; omega) (Nat.le_of_lt HQ7.out.lt)))
            clear hw HA7 HB7 HQ7 HX7
            go_wp2
            go_roundw
            case rel => exact ⟨k + 1, _, by omega, by go_num, HTG.out, rfl, rfl, HA8.out, HQ8.out, HB8.out⟩
            case measure => simp [intOf]; omega
          | false =>
            rw [hls] at hlc ht1
            have HLC := Lib.hid hlc
            rw [if_neg (by simp)] at ht1
            injection ht1 with i1 i2 i3 i4 i5 i6
            subst i1 i2 i3 i4 i5 i6
            clear hlc hls
            go_wp2_with (go_at_call 11; (with_reducible refine (HLC.out _).mono ?_); rintro e9 w7 ⟨rfl, hb7⟩)
            go_roundw
            case rel => exact ⟨k + 1, _, by omega, by go_num, HTG.out, rfl, rfl, HA6.out.kept hb7, HQ6.out.kept hb7, HB6.out.trans (hb7.mono HB6.out.size)⟩
            case measure => simp [intOf]; omega
      · obtain rfl : k = m := by omega
        have hwz := wrote_zero (J := ⟨n, s, a, b, g, t, 0, 0⟩) ⟨rfl, rfl⟩
        have hup := good_up hJg
        have hab : 0 ≤ a ∧ 0 ≤ b := good_vec hJg
        obtain ⟨S, hS⟩ : ∃ z, sameC ⟨n, s, a, b, g, t, 0, 0⟩ Cl.zero = z := ⟨_, rfl⟩
        rw [hS] at hwz
        have hcn := cell_neb n s a b g t 0 0 0 0 0 0 false [] 0 0 S hS
        have hnil : text ([] : List UInt8) = ⟨#[]⟩ := rfl
        rw [hnil] at hcn
        have hceg := cell_eqg
        have HA := Lib.hid (show Cel wr B n s a b g t 0 0 from hA)
        have HQ := Lib.hid (show Cel wr (B + 1) n s a b g t 0 0 from hL)
        have HB := Lib.hid hB
        have HWZ := Lib.hid hwz
        have HUP := Lib.hid hup
        have HG := Lib.hid hJg
        obtain ⟨c0, c1, c2, c3, c4, c5, c6, c7⟩ := HQ.out.cs
        clear hA hL hB hwz hup hJg hS hs hnil
        go_upto_region 17 with (fail)
        clear c0 c1 c2 c3 c4 c5 c6 c7 hcn hceg
        have HAB := Lib.hid hab
        clear hab
        go_loopw [9, 51] (fun kn i wx => ∃ (j : Nat) (D0 D1 : Int), j ≤ m2 ∧ i = .int .i64 j ∧ vgood D0 D1 = true ∧ kn = .bool (!S && (decide (D0 ≤ a) && decide (D1 ≤ b))) ∧ Cel wx B n s a b g t D0 D1 ∧ Cel wx (B + 1) n s a b g t 0 0 ∧ Below w.heap.size w wx) (fun _ i _ => m2 - (intOf i).toNat)
        case atStart => exact ⟨0, 0, 0, by omega, rfl, by decide, by rw [decide_eq_true HAB.out.1, decide_eq_true HAB.out.2]; cases S <;> rfl, HA.out, HQ.out, HB.out⟩
        case round =>
          clear HA HQ HB
          obtain ⟨j, D0, D1, hj, rfl, hD, rfl, hA, hQ, hB⟩ := hrel
          by_cases hlt2 : j < m2
          · have hji : (j : Int) < (m2 : Int) := by omega
            have hji2 : (j : Int) < (cap2 : Int) := by omega
            obtain ⟨bv, offv, rfl, hat⟩ := prs_at HV.out hlt2
            obtain ⟨⟨v0, v1⟩, hv⟩ : ∃ z, vs.getD j (0, 0) = z := ⟨_, rfl⟩
            rw [hv] at hat
            obtain ⟨p0, p1⟩ := hat wr hB
            simp only at p0 p1
            have hof := fun W => cof_c 2 1 1 v0 v1 true [] (by decide) W
            rw [del_of] at hof
            have hT0 : text ([] : List UInt8) = ⟨#[]⟩ := rfl
            have HA := Lib.hid hA
            have HQ := Lib.hid hQ
            have HB := Lib.hid hB
            have HD := Lib.hid hD
            clear hat hv hA hQ hB hD
            go_upto_region 19 with (fail)
            have hx2 := Pair.new wr 25 v0 v1
            have HB2 := Lib.hid (HB.out.alloc HB.out.size (.cells #[.int .i64 v0, .int .i64 v1] 25))
            have HA2 := Lib.hid (HA.out.alloc (.cells #[.int .i64 v0, .int .i64 v1] 25))
            have HQ2 := Lib.hid (HQ.out.alloc (.cells #[.int .i64 v0, .int .i64 v1] 25))
            obtain ⟨gx, hgx⟩ : ∃ g, wr.heap.size = g := ⟨_, rfl⟩
            have HGX := Lib.hid (show B + 1 < gx by have := HQ.out.lt; omega)
            rw [hgx] at hx2 ⊢
            generalize wr.alloc (.cells #[.int .i64 v0, .int .i64 v1] 25) = W2 at *
            have x0 := hx2.c0
            have x1 := hx2.c1
            have HX2 := Lib.hid hx2
            clear hx2 p0 p1 HB HA HQ hgx
            cases hvg : vgood v0 v1 with
            | false =>
              rw [hvg] at hof
              rw [if_neg (by simp)] at hof
              unfold OfPost at hof
              simp only [Cl.arr, Cl.zero, hT0] at hof
              have HOF := Lib.hid hof
              clear hof hvg hT0
              go_wp2_with (go_at_call 22; (with_reducible refine (HOF.out _).mono ?_); rintro e9 w3 ⟨rfl, hb3⟩)
              have HB3 := Lib.hid ((HB2.out.trans (hb3.mono HB2.out.size)))
              go_roundw
              case rel => exact ⟨j + 1, D0, D1, by omega, by go_num, HD.out, rfl, (HA2.out.kept hb3).alloc _, (HQ2.out.kept hb3).alloc _, HB3.out.alloc HB3.out.size _⟩
              case measure => simp [intOf]; omega
            | true =>
              rw [hvg] at hof
              rw [if_pos rfl] at hof
              unfold OfPost at hof
              simp only [Cl.arr, hT0] at hof
              have HOF := Lib.hid hof
              have htd := two_del HUP.out D0 D1 v0 v1 (vgood_bd' HD.out).1 (vgood_bd' HD.out).2.2.1
              have hgn := vgood_max HD.out hvg
              obtain ⟨N0, hN0⟩ : ∃ z, max D0 v0 = z := ⟨_, rfl⟩
              obtain ⟨N1, hN1⟩ : ∃ z, max D1 v1 = z := ⟨_, rfl⟩
              have hc0 : (decide (D0 ≤ a) && decide (v0 ≤ a)) = decide (N0 ≤ a) := by rw [← hN0, Bool.eq_iff_iff]; simp; omega
              have hc1 : (decide (D1 ≤ b) && decide (v1 ≤ b)) = decide (N1 ≤ b) := by rw [← hN1, Bool.eq_iff_iff]; simp; omega
              have hkn : ((!S && (decide (D0 ≤ a) && decide (D1 ≤ b))) && decide (v0 ≤ a) && decide (v1 ≤ b)) = (!S && (decide (N0 ≤ a) && decide (N1 ≤ b))) := by
                rw [← hc0, ← hc1]
                cases S <;> cases decide (D0 ≤ a) <;> cases decide (D1 ≤ b) <;> cases decide (v0 ≤ a) <;> cases decide (v1 ≤ b) <;> rfl
              rw [hN0, hN1] at htd hgn
              have hjc := fun W => join_c (cls2 W n s a b g t D0 D1 0 0 0 0 false [] v0 v1)
              rw [join_two (show (⟨n, s, a, b, g, t, D0, D1⟩ : Cl).Up from withD_up HUP.out (vgood_bd' HD.out).1 (vgood_bd' HD.out).2.2.1), show twoS ⟨n, s, a, b, g, t, D0, D1⟩ ⟨0, 0, 0, 0, false, [], v0, v1⟩ = ⟨n, s, a, b, g, t, N0, N1⟩ from htd] at hjc
              simp only [Cl.arr, hT0] at hjc
              have HJC := Lib.hid hjc
              have HGN := Lib.hid hgn
              obtain ⟨K0, hK0⟩ : ∃ z, (!S && (decide (D0 ≤ a) && decide (D1 ≤ b))) = z := ⟨_, rfl⟩
              rw [hK0] at hkn
              have HKN0 := Lib.hid hkn
              clear hof hvg htd hgn hN0 hN1 hc0 hc1 hkn hjc
              rw [hK0]
              clear hK0
              go_upto_region 20 with (go_at_call 22; (with_reducible refine (HOF.out _).mono ?_); rintro e9 w3 ⟨rfl, hb3⟩)
              have HA3 := Lib.hid ((HA2.out.kept hb3).alloc (.cells #[.int .i64 0, .int .i64 0, .int .i64 0, .int .i64 0, .bool false, .string ⟨#[]⟩, .int .i64 v0, .int .i64 v1] 27))
              have HQ3 := Lib.hid ((HQ2.out.kept hb3).alloc (.cells #[.int .i64 0, .int .i64 0, .int .i64 0, .int .i64 0, .bool false, .string ⟨#[]⟩, .int .i64 v0, .int .i64 v1] 27))
              have HX3 := Lib.hid ((HX2.out.kept hb3).alloc (.cells #[.int .i64 0, .int .i64 0, .int .i64 0, .int .i64 0, .bool false, .string ⟨#[]⟩, .int .i64 v0, .int .i64 v1] 27))
              have HB3 := Lib.hid ((HB2.out.trans (hb3.mono HB2.out.size)).alloc (by have := HB2.out.size; have := hb3.size; omega) (.cells #[.int .i64 0, .int .i64 0, .int .i64 0, .int .i64 0, .bool false, .string ⟨#[]⟩, .int .i64 v0, .int .i64 v1] 27))
              have hd := Cel.new w3 0 0 0 0 false [] v0 v1
              rw [hT0] at hd
              obtain ⟨gd, hgd⟩ : ∃ g, w3.heap.size = g := ⟨_, rfl⟩
              rw [hgd] at hd ⊢
              clear hgd hb3 HA2 HQ2 HX2 HB2 x0 x1
              generalize w3.alloc (.cells #[.int .i64 0, .int .i64 0, .int .i64 0, .int .i64 0, .bool false, .string ⟨#[]⟩, .int .i64 v0, .int .i64 v1] 27) = W3 at *
              obtain ⟨d0, d1, d2, d3, d4, d5, d6, d7⟩ := hd.cs
              rw [hT0] at d5
              obtain ⟨c0, c1, c2, c3, c4, c5, c6, c7⟩ := HA3.out.cs
              have hbs := Below.refl W3.heap.size W3
              clear hd hT0
              go_upto_region 22 with (go_at_call 13; (with_reducible refine (HJC.out _).mono ?_); rintro e9 w5 ⟨rfl, hb5⟩; (replace hbs := (hbs.alloc hbs.size _).trans (hb5.mono (by simp))); obtain ⟨c0, c1, c2, c3, c4, c5, c6, c7⟩ := (HA3.out.kept hbs).cs; have cfz := (HA3.out.kept hbs).fz)
              have hA5 := HA3.out.kept hbs
              have hw := Wrote.of_put n s a b g t D0 D1 (Below.refl _ w5) hA5 n s a b g t N0 N1
              have HA6 := Lib.hid (hA5.put n s a b g t N0 N1)
              have HQ6 := Lib.hid (hw.cel (HQ3.out.kept hbs) (by omega))
              have HX6 := Lib.hid (hw.pair (HX3.out.kept hbs) (by have := HGX.out; omega))
              have HB6 := Lib.hid ((HB3.out.trans (hbs.mono HB3.out.size)).trans (hw.below (by have := HBe.out; omega) (Nat.le_of_lt hA5.lt)))
              clear hbs hb5 hA5 hw HA3 HQ3 HX3 HB3 d0 d1 d2 d3 d4 d5 d6 d7 c0 c1 c2 c3 c4 c5 c6 c7 cfz
              obtain ⟨W6, hW6⟩ : ∃ W, ((((((((w5.setCell ⟨B, 0, none⟩ (.int .i64 n)).setCell ⟨B, 1, none⟩ (.int .i64 s)).setCell ⟨B, 2, none⟩ (.int .i64 a)).setCell ⟨B, 3, none⟩ (.int .i64 b)).setCell ⟨B, 4, none⟩ (.bool g)).setCell ⟨B, 5, none⟩ (.string (text t))).setCell ⟨B, 6, none⟩ (.int .i64 N0)).setCell ⟨B, 7, none⟩ (.int .i64 N1)) = W := ⟨_, rfl⟩
              rw [hW6] at HA6 HQ6 HX6 HB6 ⊢
              clear hW6
              obtain ⟨c0, c1, c2, c3, c4, c5, c6, c7⟩ := HQ6.out.cs
              have x0 := HX6.out.c0
              have x1 := HX6.out.c1
              cases K0 with
              | false =>
                have HKN := Lib.hid (show false = (!S && (decide (N0 ≤ a) && decide (N1 ≤ b))) from HKN0.out)
                clear HKN0
                go_wp2
                go_roundw
                case rel => exact ⟨j + 1, N0, N1, by omega, by go_num, HGN.out, by rw [← HKN.out], HA6.out, HQ6.out, HB6.out⟩
                case measure => simp [intOf]; omega
              | true =>
                by_cases g1 : v0 ≤ a
                · by_cases g2 : v1 ≤ b
                  · have HKN := Lib.hid (show true = (!S && (decide (N0 ≤ a) && decide (N1 ≤ b))) by have h := HKN0.out; rw [decide_eq_true g1, decide_eq_true g2] at h; exact h)
                    clear HKN0
                    go_wp2
                    go_roundw
                    case rel => exact ⟨j + 1, N0, N1, by omega, by go_num, HGN.out, by rw [← HKN.out], HA6.out, HQ6.out, HB6.out⟩
                    case measure => simp [intOf]; omega
                  · have HKN := Lib.hid (show false = (!S && (decide (N0 ≤ a) && decide (N1 ≤ b))) by have h := HKN0.out; rw [decide_eq_true g1, decide_eq_false g2] at h; exact h)
                    clear HKN0
                    go_wp2
                    go_roundw
                    case rel => exact ⟨j + 1, N0, N1, by omega, by go_num, HGN.out, by rw [← HKN.out], HA6.out, HQ6.out, HB6.out⟩
                    case measure => simp [intOf]; omega
                · have HKN := Lib.hid (show false = (!S && (decide (N0 ≤ a) && decide (N1 ≤ b))) by have h := HKN0.out; rw [decide_eq_false g1] at h; exact h)
                  clear HKN0
                  go_wp2
                  go_roundw
                  case rel => exact ⟨j + 1, N0, N1, by omega, by go_num, HGN.out, by rw [← HKN.out], HA6.out, HQ6.out, HB6.out⟩
                  case measure => simp [intOf]; omega
          · obtain rfl : j = m2 := by omega
            have hsn := del_seen HG.out ⟨rfl, rfl⟩ hD
            have hlen := good_len HG.out
            have hSN := fun W => cseen_c 2 n s a b g t D0 D1 hlen W
            simp only at hsn
            rw [hsn, HWZ.out] at hSN
            obtain ⟨K0, hK0⟩ : ∃ z, (!S && (decide (D0 ≤ a) && decide (D1 ≤ b))) = z := ⟨_, rfl⟩
            have hvc : vcov a b D0 D1 = (decide (D0 ≤ a) && decide (D1 ≤ b)) := rfl
            rw [hvc, hK0] at hSN
            rw [hK0]
            have HCW := Lib.hid (fun W (h : Below wr.heap.size wr W) => And.intro (hA.kept h).cs (hQ.kept h).cs)
            have HB := Lib.hid hB
            have hcur := Below.refl wr.heap.size wr
            obtain ⟨⟨c0, c1, c2, c3, c4, c5, c6, c7⟩, k0, k1, k2, k3, k4, k5, k6, k7⟩ := HCW.out _ hcur
            have htt : ((text t).toList == (text t).toList) = true := by simp
            obtain ⟨T9, hT9⟩ : ∃ z, text t = z := ⟨_, rfl⟩
            clear hsn hlen hA hQ hB hD hvc hK0
            cases K0 with
            | true =>
              rw [if_pos rfl] at hSN
              simp only at hSN
              have HS := Lib.hid hSN
              clear hSN hT9
              go_wp2_with (first
                | (go_at_call 21; (with_reducible refine (HS.out _).mono ?_); rintro e9 w9 ⟨rfl, hb9⟩; (replace hcur := hcur.trans (hb9.mono hcur.size)); clear hb9; obtain ⟨⟨c0, c1, c2, c3, c4, c5, c6, c7⟩, k0, k1, k2, k3, k4, k5, k6, k7⟩ := HCW.out _ hcur)
                | (go_at_call 10; (with_reducible refine (HLv.out _).mono ?_); rintro e9 w9 ⟨rfl, hb9⟩; (replace hcur := hcur.trans (hb9.mono hcur.size)); clear hb9))
              go_ret
              exact ⟨rfl, HB.out.trans (hcur.mono HB.out.size)⟩
            | false =>
              rw [if_neg (by simp)] at hSN
              simp only at hSN
              have HS := Lib.hid hSN
              clear hSN hT9
              go_wp2_with (first
                | (go_at_call 21; (with_reducible refine (HS.out _).mono ?_); rintro e9 w9 ⟨rfl, hb9⟩; (replace hcur := hcur.trans (hb9.mono hcur.size)); clear hb9; obtain ⟨⟨c0, c1, c2, c3, c4, c5, c6, c7⟩, k0, k1, k2, k3, k4, k5, k6, k7⟩ := HCW.out _ hcur)
                | (go_at_call 10; (with_reducible refine (HLv.out _).mono ?_); rintro e9 w9 ⟨rfl, hb9⟩; (replace hcur := hcur.trans (hb9.mono hcur.size)); clear hb9))
              go_ret
              exact ⟨rfl, HB.out.trans (hcur.mono HB.out.size)⟩
end Go.Proofs.Ytkjpmdpljdgcjaa
