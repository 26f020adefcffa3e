/-
  Cell: the reference's read.
-/
import Derived.Test.YtkjpmdpljdgcjaaDoorK6
namespace Go.Proofs.YtkjpmdpljdgcjaaDoor
open Go.RowKit Go Go.Sort
set_option linter.unusedVariables false
set_option maxRecDepth 20000

/-- What read tells. -/
def ReadPost (l : List UInt8) (w : World) (e : Ending) (w' : World) : Prop := ∃ (c : Cl) (k : Int) (ok : Bool), e = .returned (.tuple #[.agg c.arr, .int .i64 k, .bool ok]) ∧ c.t.length ≤ 64 ∧
  (ok = true → ∃ q : Nat, k = (q : Int) ∧ q ≤ l.length ∧ readS l = some (c, q)) ∧ (ok = false → readS l = none) ∧ Below w.heap.size w w'

set_option maxRecDepth 100000 in
set_option maxHeartbeats 12800000 in
theorem rcread_c {w : World} {ad : Option Addr} {m cap : Nat} {l : List UInt8} (hl : Bys w ad m cap l) : Calls Tryd.prog 83 #[.slice ad m cap] w (ReadPost l w) := by
  have hlen := hl.len
  have hmx : m ≤ 9223372036854775807 := Nat.le_trans hl.le hl.max
  have hnil : text ([] : List UInt8) = ⟨#[]⟩ := rfl
  have hr0 := (Cel.new w 0 0 0 0 false [] 0 0).alloc (.cells #[.int .i64 0, .int .i64 0, .int .i64 0, .int .i64 0, .bool false, .string (text []), .int .i64 0, .int .i64 0] 50)
  have hc0 := Cel.new (w.alloc (.cells #[.int .i64 0, .int .i64 0, .int .i64 0, .int .i64 0, .bool false, .string (text []), .int .i64 0, .int .i64 0] 50)) 0 0 0 0 false [] 0 0
  have hB0 := second_below w (.cells #[.int .i64 0, .int .i64 0, .int .i64 0, .int .i64 0, .bool false, .string (text []), .int .i64 0, .int .i64 0] 50) (.cells #[.int .i64 0, .int .i64 0, .int .i64 0, .int .i64 0, .bool false, .string (text []), .int .i64 0, .int .i64 0] 50)
  rw [World.size_alloc] at hc0
  rw [hnil] at hr0 hc0 hB0
  have HL := Lib.hid (fun W (h : Below w.heap.size w W) => hl.below h)
  have hok := getS_ok l
  have HE := Lib.hid (@readS_err l)
  have HBG := Lib.hid (@readS_big l)
  have hat := @readS_at l
  have HG := fun W (h : Below w.heap.size w W) => rget_c (hl.below h)
  obtain ⟨⟨x, k0, f0⟩, hx⟩ : ∃ z, getS l = z := ⟨_, rfl⟩
  rw [hx] at HG hok HE HBG hat
  simp only at HG hok HE HBG
  have HGG := Lib.hid HG
  clear hl HG hnil hx
  go_enter Tryd.func83, Tryd.ntmps83
  go_upto_region 2 with (fail)
  generalize (w.alloc (.cells #[.int .i64 0, .int .i64 0, .int .i64 0, .int .i64 0, .bool false, .string ⟨#[]⟩, .int .i64 0, .int .i64 0] 50)).alloc (.cells #[.int .i64 0, .int .i64 0, .int .i64 0, .int .i64 0, .bool false, .string ⟨#[]⟩, .int .i64 0, .int .i64 0] 50) = W1 at *
  have HR := Lib.hid hr0
  have HC := Lib.hid hc0
  have HB := Lib.hid hB0
  clear hr0 hc0 hB0
  go_upto_region 3 with (go_at_call 82; (with_reducible refine (HGG.out _ HB.out).mono ?_); rintro e9 w9 ⟨rfl, rfl⟩)
  by_cases hf0 : f0 = 0
  · subst hf0
    obtain ⟨q0, rfl, hq01, hq02, hx0, hx1⟩ := hok rfl
    rw [hlen] at hq02
    by_cases h7 : x ≤ 7
    · have h7n : ¬ 7 < x := by omega
      have hRP0 := hat rfl h7
      clear hat hok HE HBG
      cases hw : (x % 2 == 1) with
      | false =>
        have hRP := hRP0.trans (parts_bare (by rw [bit1]; exact hw))
        rw [bit1, hw] at hRP
        have hP : q0 ≤ m := hq02
        change readS l = endR l x ⟨0, 0, 0, 0, false, [], 0, 0⟩ q0 at hRP
        clear hRP0
        go_upto_region 23 with (fail)
        cases hd : (x / 4 == 1) with
        | false =>
          obtain ⟨c0, c1, c2, c3, c4, c5, c6, c7⟩ := HC.out.cs
          obtain ⟨r0, r1, r2, r3, r4, r5, r6, r7⟩ := HR.out.cs
          have zr := HR.out.fz
          have zc := HC.out.fz
          have HRD := Lib.hid (show readS l = some (⟨0, 0, 0, 0, false, [], 0, 0⟩, q0) by rw [hRP, end_no (by rw [bit4 hx0 h7]; exact hd)])
          go_wp2
          refine bodyPost_ret (res_cell_tmp2 rfl _ _ w.heap.size 50 _ (0, 0) _ (.int .i64 ((q0 : Nat) : Int)) (.bool true) rfl rfl rfl (HR.out.put 0 0 0 0 false [] 0 0) Tryd.underlying50 rfl (sizeC _ _ _ _ _ _ _ _)) rfl ?_
          exact ⟨⟨0, 0, 0, 0, false, [], 0, 0⟩, ((q0 : Nat) : Int), true, rfl, Nat.zero_le _, fun _ => ⟨q0, rfl, by omega, HRD.out⟩, fun h => (by cases h), put_below HB.out (Nat.le_refl _) _ _ _ _ _ _ _ _⟩
        | true =>
          have hb4 : bit x 4 = true := by rw [bit4 hx0 h7]; exact hd
          obtain ⟨a4, hs4, hs4b, hy4⟩ := slice_bys (HL.out _ HB.out) (q := q0) hP
          have HVG := rvget_c hy4
          have hok4 := vgetS_ok (l.drop q0)
          have hbad4 := @end_bad l x ⟨0, 0, 0, 0, false, [], 0, 0⟩ q0
          have hyes4 := @end_yes l x ⟨0, 0, 0, 0, false, [], 0, 0⟩ q0
          have hdl : (l.drop q0).length = m - q0 := by rw [List.length_drop, hlen]
          obtain ⟨⟨⟨d4, e4⟩, k4, f4⟩, hv4⟩ : ∃ z, vgetS (l.drop q0) = z := ⟨_, rfl⟩
          rw [hv4] at HVG hok4 hbad4
          simp only at HVG hok4 hbad4
          have HVG := Lib.hid HVG
          go_upto_region 25 with (go_at_call 107; (with_reducible refine HVG.out.mono ?_); rintro e9 w4 ⟨rfl, hb4⟩)
          have HB := Lib.hid ((HB.out.trans (hb4.mono HB.out.size)).alloc (Nat.le_trans HB.out.size hb4.size) (.cells #[.int .i64 d4, .int .i64 e4] 44))
          have HC := Lib.hid ((HC.out.kept hb4).alloc (.cells #[.int .i64 d4, .int .i64 e4] 44))
          have HR := Lib.hid ((HR.out.kept hb4).alloc (.cells #[.int .i64 d4, .int .i64 e4] 44))
          have HD := Lib.hid (Pair.new w4 44 d4 e4)
          obtain ⟨gd, hgd⟩ : ∃ q, w4.heap.size = q := ⟨_, rfl⟩
          rw [hgd] at HD ⊢
          clear hgd hb4 HVG hs4 hs4b hy4
          generalize w4.alloc (.cells #[.int .i64 d4, .int .i64 e4] 44) = W4 at *
          by_cases h4 : f4 = 0
          · subst h4
            obtain ⟨q4, rfl, hq4⟩ := hok4 rfl
            rw [hdl] at hq4
            have hR2 := hRP.trans (hyes4 (show bit x 4 = true by rw [bit4 hx0 h7]; exact hd) hv4)
            have hsum4 := Lib.hid (show (q0 : Int) + (q4 : Int) = ((q0 + q4 : Nat) : Int) by omega)
            have hle4 : (q0 : Int) + (q4 : Int) ≤ 9223372036854775807 := by omega
            have d0 := HD.out.c0
            have d1 := HD.out.c1
            obtain ⟨c0, c1, c2, c3, c4, c5, c6, c7⟩ := HC.out.cs
            obtain ⟨r0, r1, r2, r3, r4, r5, r6, r7⟩ := HR.out.cs
            have zr := HR.out.fz
            have zc := HC.out.fz
            go_upto_region 29 with (fail)
            have HC := Lib.hid (HC.out.dead d4 e4)
            have HR := Lib.hid (HR.out.dead_other (q := w.heap.size + 1) (by omega) d4 e4)
            have HB := Lib.hid (dead_below HB.out (q := w.heap.size + 1) (by omega) d4 e4)
            clear c0 c1 c2 c3 c4 c5 c6 c7 r0 r1 r2 r3 r4 r5 r6 r7 zr zc
            generalize ((W4.setCell ⟨w.heap.size + 1, 6, none⟩ (.int .i64 d4)).setCell ⟨w.heap.size + 1, 7, none⟩ (.int .i64 e4)) = V1 at *
            rw [hsum4.out]
            obtain ⟨P4, hP4⟩ : ∃ q, q0 + q4 = q := ⟨_, rfl⟩
            rw [hP4] at hR2 ⊢
            clear hsum4 hle4 d0 d1 HD
            obtain ⟨c0, c1, c2, c3, c4, c5, c6, c7⟩ := HC.out.cs
            obtain ⟨r0, r1, r2, r3, r4, r5, r6, r7⟩ := HR.out.cs
            have zr := HR.out.fz
            have zc := HC.out.fz
            have HRD := Lib.hid (show readS l = some (⟨0, 0, 0, 0, false, [], d4, e4⟩, P4) by exact hR2)
            go_wp2
            refine bodyPost_ret (res_cell_tmp2 rfl _ _ w.heap.size 50 _ (0, 0) _ (.int .i64 ((P4 : Nat) : Int)) (.bool true) rfl rfl rfl (HR.out.put 0 0 0 0 false [] d4 e4) Tryd.underlying50 rfl (sizeC _ _ _ _ _ _ _ _)) rfl ?_
            exact ⟨⟨0, 0, 0, 0, false, [], d4, e4⟩, ((P4 : Nat) : Int), true, rfl, Nat.zero_le _, fun _ => ⟨P4, rfl, by omega, HRD.out⟩, fun h => (by cases h), put_below HB.out (Nat.le_refl _) _ _ _ _ _ _ _ _⟩
          · have hne : (f4 != 0) = true := by simpa using h4
            have hR2 := hRP.trans (hbad4 (show bit x 4 = true by rw [bit4 hx0 h7]; exact hd) h4)
            clear hyes4 hbad4 hok4 hv4 h4 HD
            obtain ⟨c0, c1, c2, c3, c4, c5, c6, c7⟩ := HC.out.cs
            obtain ⟨r0, r1, r2, r3, r4, r5, r6, r7⟩ := HR.out.cs
            have zr := HR.out.fz
            have zc := HC.out.fz
            have HRD := Lib.hid (show readS l = none by exact hR2)
            go_wp2
            refine bodyPost_ret (res_cell_tmp2 rfl _ _ w.heap.size 50 _ (0, 0) _ (.int .i64 0) (.bool false) rfl rfl rfl (HR.out.put 0 0 0 0 false [] 0 0) Tryd.underlying50 rfl (sizeC _ _ _ _ _ _ _ _)) rfl ?_
            exact ⟨⟨0, 0, 0, 0, false, [], 0, 0⟩, 0, false, rfl, Nat.zero_le _, fun h => (by cases h), fun _ => HRD.out, put_below HB.out (Nat.le_refl _) _ _ _ _ _ _ _ _⟩
      | true =>
        rw [bit1, hw, Bool.true_and] at hRP0
        have hb1 : bit x 1 = true := by rw [bit1]; exact hw
        obtain ⟨a1, hs1, hs1b, hy1⟩ := slice_bys (HL.out _ HB.out) (q := q0) hq02
        have HSG := rsget_c hy1
        have hok1 := sgetS_ok (l.drop q0)
        have hd1 : (l.drop q0).length = m - q0 := by rw [List.length_drop, hlen]
        have hm1 := fun g => @mid_stamp l q0 g
        obtain ⟨⟨⟨n, s⟩, k1, f1⟩, hv1⟩ : ∃ z, sgetS (l.drop q0) = z := ⟨_, rfl⟩
        rw [hv1] at HSG hok1 hm1
        simp only at HSG hok1 hm1
        have HSG := Lib.hid HSG
        go_upto_region 7 with (go_at_call 106; (with_reducible refine HSG.out.mono ?_); rintro e9 w1 ⟨rfl, hb2⟩)
        have HB := Lib.hid ((HB.out.trans (hb2.mono HB.out.size)).alloc (Nat.le_trans HB.out.size hb2.size) (.cells #[.int .i64 n, .int .i64 s] 48))
        have HC := Lib.hid ((HC.out.kept hb2).alloc (.cells #[.int .i64 n, .int .i64 s] 48))
        have HR := Lib.hid ((HR.out.kept hb2).alloc (.cells #[.int .i64 n, .int .i64 s] 48))
        have HST := Lib.hid (Pair.new w1 48 n s)
        obtain ⟨gs, hgs⟩ : ∃ q, w1.heap.size = q := ⟨_, rfl⟩
        rw [hgs] at HST ⊢
        clear hgs hb2 HSG hs1 hs1b hy1
        generalize w1.alloc (.cells #[.int .i64 n, .int .i64 s] 48) = W2 at *
        by_cases h1 : f1 = 0
        · subst h1
          obtain ⟨q1, rfl, hq1⟩ := hok1 rfl
          rw [hd1] at hq1
          clear hm1 hok1 hd1
          have hsum1 := Lib.hid (show (q0 : Int) + (q1 : Int) = ((q0 + q1 : Nat) : Int) by omega)
          have hle1 : (q0 : Int) + (q1 : Int) ≤ 9223372036854775807 := by omega
          go_upto_region 10 with (fail)
          rw [hsum1.out]
          have hP1 : q0 + q1 ≤ m := by omega
          have hm2 := fun g => @mid_vec l q0 q1 g n s hv1
          obtain ⟨a2, hs2, hs2b, hy2⟩ := slice_bys (HL.out _ HB.out) (q := q0 + q1) hP1
          have HVG := rvget_c hy2
          have hok2 := vgetS_ok (l.drop (q0 + q1))
          have hd2 : (l.drop (q0 + q1)).length = m - (q0 + q1) := by rw [List.length_drop, hlen]
          obtain ⟨⟨⟨a, b⟩, k2, f2⟩, hv2⟩ : ∃ z, vgetS (l.drop (q0 + q1)) = z := ⟨_, rfl⟩
          rw [hv2] at HVG hok2 hm2
          simp only at HVG hok2 hm2
          have HVG := Lib.hid HVG
          obtain ⟨P1, hPP1⟩ : ∃ q, q0 + q1 = q := ⟨_, rfl⟩
          rw [hPP1] at hs2 hs2b hv2 hd2 hok2 hP1 HVG hy2 ⊢
          have HPP1 := Lib.hid hPP1
          clear hsum1 hle1 hPP1
          go_upto_region 11 with (go_at_call 107; (with_reducible refine HVG.out.mono ?_); rintro e9 w2 ⟨rfl, hb3⟩)
          have HC0 := HC
          have HB := Lib.hid ((HB.out.trans (hb3.mono HB.out.size)).alloc (Nat.le_trans HB.out.size hb3.size) (.cells #[.int .i64 a, .int .i64 b] 44))
          have HC := Lib.hid ((HC.out.kept hb3).alloc (.cells #[.int .i64 a, .int .i64 b] 44))
          have HR := Lib.hid ((HR.out.kept hb3).alloc (.cells #[.int .i64 a, .int .i64 b] 44))
          have HST := Lib.hid ((HST.out.kept hb3).alloc (.cells #[.int .i64 a, .int .i64 b] 44))
          have HVC := Lib.hid (Pair.new w2 44 a b)
          obtain ⟨gv, hgv⟩ : ∃ q, w2.heap.size = q := ⟨_, rfl⟩
          rw [hgv] at HVC ⊢
          have HGV := Lib.hid (show w.heap.size + 1 < gv by rw [← hgv]; exact Nat.lt_of_lt_of_le HC0.out.lt hb3.size)
          clear HC0 hgv hb3 HVG hs2 hs2b hy2
          generalize w2.alloc (.cells #[.int .i64 a, .int .i64 b] 44) = W3 at *
          by_cases h2 : f2 = 0
          · subst h2
            obtain ⟨q2, rfl, hq2⟩ := hok2 rfl
            rw [hd2] at hq2
            clear hm2 hok2 hd2
            have hsum2 := Lib.hid (show (P1 : Int) + (q2 : Int) = ((P1 + q2 : Nat) : Int) by omega)
            have hle2 : (P1 : Int) + (q2 : Int) ≤ 9223372036854775807 := by omega
            have hP : P1 + q2 ≤ m := by omega
            have s0 := HST.out.c0
            have s1 := HST.out.c1
            have v0 := HVC.out.c0
            have v1 := HVC.out.c1
            have hgn1 : ¬ (gv = w.heap.size + 1) := by have := HGV.out; omega
            have hgn2 : ¬ (w.heap.size + 1 = gv) := by have := HGV.out; omega
            obtain ⟨c0, c1, c2, c3, c4, c5, c6, c7⟩ := HC.out.cs
            obtain ⟨r0, r1, r2, r3, r4, r5, r6, r7⟩ := HR.out.cs
            have zr := HR.out.fz
            have zc := HC.out.fz
            have hv2b : vgetS (l.drop (q0 + q1)) = ((a, b), (q2 : Int), 0) := by rw [HPP1.out]; exact hv2
            clear hv2
            cases hg : (x / 2 % 2 == 1) with
            | true =>
              have hgb : bit x 2 = true := hg
              rw [hgb] at hRP0
              go_upto_region 17 with (fail)
              rw [hsum2.out]
              have HC := Lib.hid (HC.out.head n s a b true)
              have HR := Lib.hid (HR.out.head_other (q := w.heap.size + 1) (by omega) n s a b true)
              have HB := Lib.hid (head_below HB.out (q := w.heap.size + 1) (by omega) n s a b true)
              clear c0 c1 c2 c3 c4 c5 c6 c7 r0 r1 r2 r3 r4 r5 r6 r7 zr zc
              generalize (((((W3.setCell ⟨w.heap.size + 1, 0, none⟩ (.int .i64 n)).setCell ⟨w.heap.size + 1, 1, none⟩ (.int .i64 s)).setCell ⟨w.heap.size + 1, 2, none⟩ (.int .i64 a)).setCell ⟨w.heap.size + 1, 3, none⟩ (.int .i64 b)).setCell ⟨w.heap.size + 1, 4, none⟩ (.bool true)) = V2 at *
              clear s0 s1 v0 v1 HST HVC hsum2 hle2
              have hRP := hRP0.trans (parts_some hb1 (mid_gone hv1 hv2b))
              rw [HPP1.out] at hRP
              obtain ⟨P, hPP⟩ : ∃ q, P1 + q2 = q := ⟨_, rfl⟩
              rw [hPP] at hRP hP ⊢
              clear hRP0 hPP
              obtain ⟨c0, c1, c2, c3, c4, c5, c6, c7⟩ := HC.out.cs
              obtain ⟨r0, r1, r2, r3, r4, r5, r6, r7⟩ := HR.out.cs
              have zr := HR.out.fz
              have zc := HC.out.fz
              go_upto_region 23 with (fail)
              clear c0 c1 c2 c3 c4 c5 c6 c7 r0 r1 r2 r3 r4 r5 r6 r7 zr zc
              cases hd : (x / 4 == 1) with
              | false =>
                obtain ⟨c0, c1, c2, c3, c4, c5, c6, c7⟩ := HC.out.cs
                obtain ⟨r0, r1, r2, r3, r4, r5, r6, r7⟩ := HR.out.cs
                have zr := HR.out.fz
                have zc := HC.out.fz
                have HRD := Lib.hid (show readS l = some (⟨n, s, a, b, true, [], 0, 0⟩, P) by rw [hRP, end_no (by rw [bit4 hx0 h7]; exact hd)])
                go_wp2
                refine bodyPost_ret (res_cell_tmp2 rfl _ _ w.heap.size 50 _ (0, 0) _ (.int .i64 ((P : Nat) : Int)) (.bool true) rfl rfl rfl (HR.out.put n s a b true [] 0 0) Tryd.underlying50 rfl (sizeC _ _ _ _ _ _ _ _)) rfl ?_
                exact ⟨⟨n, s, a, b, true, [], 0, 0⟩, ((P : Nat) : Int), true, rfl, Nat.zero_le _, fun _ => ⟨P, rfl, by omega, HRD.out⟩, fun h => (by cases h), put_below HB.out (Nat.le_refl _) _ _ _ _ _ _ _ _⟩
              | true =>
                have hb4 : bit x 4 = true := by rw [bit4 hx0 h7]; exact hd
                obtain ⟨a4, hs4, hs4b, hy4⟩ := slice_bys (HL.out _ HB.out) (q := P) hP
                have HVG := rvget_c hy4
                have hok4 := vgetS_ok (l.drop P)
                have hbad4 := @end_bad l x ⟨n, s, a, b, true, [], 0, 0⟩ P
                have hyes4 := @end_yes l x ⟨n, s, a, b, true, [], 0, 0⟩ P
                have hdl : (l.drop P).length = m - P := by rw [List.length_drop, hlen]
                obtain ⟨⟨⟨d4, e4⟩, k4, f4⟩, hv4⟩ : ∃ z, vgetS (l.drop P) = z := ⟨_, rfl⟩
                rw [hv4] at HVG hok4 hbad4
                simp only at HVG hok4 hbad4
                have HVG := Lib.hid HVG
                go_upto_region 25 with (go_at_call 107; (with_reducible refine HVG.out.mono ?_); rintro e9 w4 ⟨rfl, hb4⟩)
                have HB := Lib.hid ((HB.out.trans (hb4.mono HB.out.size)).alloc (Nat.le_trans HB.out.size hb4.size) (.cells #[.int .i64 d4, .int .i64 e4] 44))
                have HC := Lib.hid ((HC.out.kept hb4).alloc (.cells #[.int .i64 d4, .int .i64 e4] 44))
                have HR := Lib.hid ((HR.out.kept hb4).alloc (.cells #[.int .i64 d4, .int .i64 e4] 44))
                have HD := Lib.hid (Pair.new w4 44 d4 e4)
                obtain ⟨gd, hgd⟩ : ∃ q, w4.heap.size = q := ⟨_, rfl⟩
                rw [hgd] at HD ⊢
                clear hgd hb4 HVG hs4 hs4b hy4
                generalize w4.alloc (.cells #[.int .i64 d4, .int .i64 e4] 44) = W4 at *
                by_cases h4 : f4 = 0
                · subst h4
                  obtain ⟨q4, rfl, hq4⟩ := hok4 rfl
                  rw [hdl] at hq4
                  have hR2 := hRP.trans (hyes4 (show bit x 4 = true by rw [bit4 hx0 h7]; exact hd) hv4)
                  have hsum4 := Lib.hid (show (P : Int) + (q4 : Int) = ((P + q4 : Nat) : Int) by omega)
                  have hle4 : (P : Int) + (q4 : Int) ≤ 9223372036854775807 := by omega
                  have d0 := HD.out.c0
                  have d1 := HD.out.c1
                  obtain ⟨c0, c1, c2, c3, c4, c5, c6, c7⟩ := HC.out.cs
                  obtain ⟨r0, r1, r2, r3, r4, r5, r6, r7⟩ := HR.out.cs
                  have zr := HR.out.fz
                  have zc := HC.out.fz
                  go_upto_region 29 with (fail)
                  have HC := Lib.hid (HC.out.dead d4 e4)
                  have HR := Lib.hid (HR.out.dead_other (q := w.heap.size + 1) (by omega) d4 e4)
                  have HB := Lib.hid (dead_below HB.out (q := w.heap.size + 1) (by omega) d4 e4)
                  clear c0 c1 c2 c3 c4 c5 c6 c7 r0 r1 r2 r3 r4 r5 r6 r7 zr zc
                  generalize ((W4.setCell ⟨w.heap.size + 1, 6, none⟩ (.int .i64 d4)).setCell ⟨w.heap.size + 1, 7, none⟩ (.int .i64 e4)) = V3 at *
                  rw [hsum4.out]
                  obtain ⟨P4, hP4⟩ : ∃ q, P + q4 = q := ⟨_, rfl⟩
                  rw [hP4] at hR2 ⊢
                  clear hsum4 hle4 d0 d1 HD
                  obtain ⟨c0, c1, c2, c3, c4, c5, c6, c7⟩ := HC.out.cs
                  obtain ⟨r0, r1, r2, r3, r4, r5, r6, r7⟩ := HR.out.cs
                  have zr := HR.out.fz
                  have zc := HC.out.fz
                  have HRD := Lib.hid (show readS l = some (⟨n, s, a, b, true, [], d4, e4⟩, P4) by exact hR2)
                  go_wp2
                  refine bodyPost_ret (res_cell_tmp2 rfl _ _ w.heap.size 50 _ (0, 0) _ (.int .i64 ((P4 : Nat) : Int)) (.bool true) rfl rfl rfl (HR.out.put n s a b true [] d4 e4) Tryd.underlying50 rfl (sizeC _ _ _ _ _ _ _ _)) rfl ?_
                  exact ⟨⟨n, s, a, b, true, [], d4, e4⟩, ((P4 : Nat) : Int), true, rfl, Nat.zero_le _, fun _ => ⟨P4, rfl, by omega, HRD.out⟩, fun h => (by cases h), put_below HB.out (Nat.le_refl _) _ _ _ _ _ _ _ _⟩
                · have hne : (f4 != 0) = true := by simpa using h4
                  have hR2 := hRP.trans (hbad4 (show bit x 4 = true by rw [bit4 hx0 h7]; exact hd) h4)
                  clear hyes4 hbad4 hok4 hv4 h4 HD
                  obtain ⟨c0, c1, c2, c3, c4, c5, c6, c7⟩ := HC.out.cs
                  obtain ⟨r0, r1, r2, r3, r4, r5, r6, r7⟩ := HR.out.cs
                  have zr := HR.out.fz
                  have zc := HC.out.fz
                  have HRD := Lib.hid (show readS l = none by exact hR2)
                  go_wp2
                  refine bodyPost_ret (res_cell_tmp2 rfl _ _ w.heap.size 50 _ (0, 0) _ (.int .i64 0) (.bool false) rfl rfl rfl (HR.out.put n s a b true [] 0 0) Tryd.underlying50 rfl (sizeC _ _ _ _ _ _ _ _)) rfl ?_
                  exact ⟨⟨n, s, a, b, true, [], 0, 0⟩, 0, false, rfl, Nat.zero_le _, fun h => (by cases h), fun _ => HRD.out, put_below HB.out (Nat.le_refl _) _ _ _ _ _ _ _ _⟩
            | false =>
              have hgb : bit x 2 = false := hg
              rw [hgb] at hRP0
              go_upto_region 17 with (fail)
              rw [hsum2.out]
              have HC := Lib.hid (HC.out.head n s a b false)
              have HR := Lib.hid (HR.out.head_other (q := w.heap.size + 1) (by omega) n s a b false)
              have HB := Lib.hid (head_below HB.out (q := w.heap.size + 1) (by omega) n s a b false)
              clear c0 c1 c2 c3 c4 c5 c6 c7 r0 r1 r2 r3 r4 r5 r6 r7 zr zc
              generalize (((((W3.setCell ⟨w.heap.size + 1, 0, none⟩ (.int .i64 n)).setCell ⟨w.heap.size + 1, 1, none⟩ (.int .i64 s)).setCell ⟨w.heap.size + 1, 2, none⟩ (.int .i64 a)).setCell ⟨w.heap.size + 1, 3, none⟩ (.int .i64 b)).setCell ⟨w.heap.size + 1, 4, none⟩ (.bool false)) = V4 at *
              clear s0 s1 v0 v1 HST HVC hsum2 hle2
              have hm4 := @mid_text l q0 q1 q2 n s a b hv1 hv2b
              have hm5 := fun t q3 => @mid_all l t q0 q1 q2 q3 n s a b hv1 hv2b
              rw [HPP1.out] at hm4 hm5
              obtain ⟨P2, hPP⟩ : ∃ q, P1 + q2 = q := ⟨_, rfl⟩
              rw [hPP] at hm4 hm5 hP ⊢
              clear hPP hv2b
              obtain ⟨a3, hs3, hs3b, hy3⟩ := slice_bys (HL.out _ HB.out) (q := P2) hP
              have HTG := rgettext_c hy3 64 (by omega) (by omega)
              have hok3 := textS_in (l.drop P2) 64
              have hd3 : (l.drop P2).length = m - P2 := by rw [List.length_drop, hlen]
              obtain ⟨⟨t, k3, f3⟩, hv3⟩ : ∃ z, textS (l.drop P2) 64 = z := ⟨_, rfl⟩
              rw [hv3] at HTG hok3 hm4
              simp only at HTG hok3 hm4
              have HTG := Lib.hid HTG
              obtain ⟨c0, c1, c2, c3, c4, c5, c6, c7⟩ := HC.out.cs
              obtain ⟨r0, r1, r2, r3, r4, r5, r6, r7⟩ := HR.out.cs
              have zr := HR.out.fz
              have zc := HC.out.fz
              go_upto_region 19 with (go_at_call 53; (with_reducible refine HTG.out.mono ?_); rintro e9 w9 ⟨rfl, rfl⟩)
              clear hs3 hs3b hy3 HTG
              by_cases h3 : f3 = 0
              · subst h3
                obtain ⟨q3, rfl, hq3, ht3⟩ := hok3 rfl
                rw [hd3] at hq3
                have HTL := Lib.hid (show t.length ≤ 64 by omega)
                clear hok3 hd3 hm4
                have hsum3 := Lib.hid (show (P2 : Int) + (q3 : Int) = ((P2 + q3 : Nat) : Int) by omega)
                have hle3 : (P2 : Int) + (q3 : Int) ≤ 9223372036854775807 := by omega
                have hRP := hRP0.trans (parts_some hb1 (hm5 t q3 hv3))
                go_upto_region 23 with (fail)
                rw [hsum3.out]
                have HC := Lib.hid (HC.out.txt t)
                have HR := Lib.hid (HR.out.txt_other (q := w.heap.size + 1) (by omega) t)
                have HB := Lib.hid (txt_below HB.out (q := w.heap.size + 1) (by omega) t)
                clear c0 c1 c2 c3 c4 c5 c6 c7 r0 r1 r2 r3 r4 r5 r6 r7 zr zc
                generalize (V4.setCell ⟨w.heap.size + 1, 5, none⟩ (.string (text t))) = V5 at *
                have hP3 : P2 + q3 ≤ m := by omega
                obtain ⟨P, hPP⟩ : ∃ q, P2 + q3 = q := ⟨_, rfl⟩
                rw [hPP] at hRP hP3 ⊢
                have hP := hP3
                clear hRP0 hPP hsum3 hle3 ht3 hm5 hv3
                cases hd : (x / 4 == 1) with
                | false =>
                  obtain ⟨c0, c1, c2, c3, c4, c5, c6, c7⟩ := HC.out.cs
                  obtain ⟨r0, r1, r2, r3, r4, r5, r6, r7⟩ := HR.out.cs
                  have zr := HR.out.fz
                  have zc := HC.out.fz
                  have HRD := Lib.hid (show readS l = some (⟨n, s, a, b, false, t, 0, 0⟩, P) by rw [hRP, end_no (by rw [bit4 hx0 h7]; exact hd)])
                  go_wp2
                  refine bodyPost_ret (res_cell_tmp2 rfl _ _ w.heap.size 50 _ (0, 0) _ (.int .i64 ((P : Nat) : Int)) (.bool true) rfl rfl rfl (HR.out.put n s a b false t 0 0) Tryd.underlying50 rfl (sizeC _ _ _ _ _ _ _ _)) rfl ?_
                  exact ⟨⟨n, s, a, b, false, t, 0, 0⟩, ((P : Nat) : Int), true, rfl, HTL.out, fun _ => ⟨P, rfl, by omega, HRD.out⟩, fun h => (by cases h), put_below HB.out (Nat.le_refl _) _ _ _ _ _ _ _ _⟩
                | true =>
                  have hb4 : bit x 4 = true := by rw [bit4 hx0 h7]; exact hd
                  obtain ⟨a4, hs4, hs4b, hy4⟩ := slice_bys (HL.out _ HB.out) (q := P) hP
                  have HVG := rvget_c hy4
                  have hok4 := vgetS_ok (l.drop P)
                  have hbad4 := @end_bad l x ⟨n, s, a, b, false, t, 0, 0⟩ P
                  have hyes4 := @end_yes l x ⟨n, s, a, b, false, t, 0, 0⟩ P
                  have hdl : (l.drop P).length = m - P := by rw [List.length_drop, hlen]
                  obtain ⟨⟨⟨d4, e4⟩, k4, f4⟩, hv4⟩ : ∃ z, vgetS (l.drop P) = z := ⟨_, rfl⟩
                  rw [hv4] at HVG hok4 hbad4
                  simp only at HVG hok4 hbad4
                  have HVG := Lib.hid HVG
                  go_upto_region 25 with (go_at_call 107; (with_reducible refine HVG.out.mono ?_); rintro e9 w4 ⟨rfl, hb4⟩)
                  have HB := Lib.hid ((HB.out.trans (hb4.mono HB.out.size)).alloc (Nat.le_trans HB.out.size hb4.size) (.cells #[.int .i64 d4, .int .i64 e4] 44))
                  have HC := Lib.hid ((HC.out.kept hb4).alloc (.cells #[.int .i64 d4, .int .i64 e4] 44))
                  have HR := Lib.hid ((HR.out.kept hb4).alloc (.cells #[.int .i64 d4, .int .i64 e4] 44))
                  have HD := Lib.hid (Pair.new w4 44 d4 e4)
                  obtain ⟨gd, hgd⟩ : ∃ q, w4.heap.size = q := ⟨_, rfl⟩
                  rw [hgd] at HD ⊢
                  clear hgd hb4 HVG hs4 hs4b hy4
                  generalize w4.alloc (.cells #[.int .i64 d4, .int .i64 e4] 44) = W4 at *
                  by_cases h4 : f4 = 0
                  · subst h4
                    obtain ⟨q4, rfl, hq4⟩ := hok4 rfl
                    rw [hdl] at hq4
                    have hR2 := hRP.trans (hyes4 (show bit x 4 = true by rw [bit4 hx0 h7]; exact hd) hv4)
                    have hsum4 := Lib.hid (show (P : Int) + (q4 : Int) = ((P + q4 : Nat) : Int) by omega)
                    have hle4 : (P : Int) + (q4 : Int) ≤ 9223372036854775807 := by omega
                    have d0 := HD.out.c0
                    have d1 := HD.out.c1
                    obtain ⟨c0, c1, c2, c3, c4, c5, c6, c7⟩ := HC.out.cs
                    obtain ⟨r0, r1, r2, r3, r4, r5, r6, r7⟩ := HR.out.cs
                    have zr := HR.out.fz
                    have zc := HC.out.fz
                    go_upto_region 29 with (fail)
                    have HC := Lib.hid (HC.out.dead d4 e4)
                    have HR := Lib.hid (HR.out.dead_other (q := w.heap.size + 1) (by omega) d4 e4)
                    have HB := Lib.hid (dead_below HB.out (q := w.heap.size + 1) (by omega) d4 e4)
                    clear c0 c1 c2 c3 c4 c5 c6 c7 r0 r1 r2 r3 r4 r5 r6 r7 zr zc
                    generalize ((W4.setCell ⟨w.heap.size + 1, 6, none⟩ (.int .i64 d4)).setCell ⟨w.heap.size + 1, 7, none⟩ (.int .i64 e4)) = V6 at *
                    rw [hsum4.out]
                    obtain ⟨P4, hP4⟩ : ∃ q, P + q4 = q := ⟨_, rfl⟩
                    rw [hP4] at hR2 ⊢
                    clear hsum4 hle4 d0 d1 HD
                    obtain ⟨c0, c1, c2, c3, c4, c5, c6, c7⟩ := HC.out.cs
                    obtain ⟨r0, r1, r2, r3, r4, r5, r6, r7⟩ := HR.out.cs
                    have zr := HR.out.fz
                    have zc := HC.out.fz
                    have HRD := Lib.hid (show readS l = some (⟨n, s, a, b, false, t, d4, e4⟩, P4) by exact hR2)
                    go_wp2
                    refine bodyPost_ret (res_cell_tmp2 rfl _ _ w.heap.size 50 _ (0, 0) _ (.int .i64 ((P4 : Nat) : Int)) (.bool true) rfl rfl rfl (HR.out.put n s a b false t d4 e4) Tryd.underlying50 rfl (sizeC _ _ _ _ _ _ _ _)) rfl ?_
                    exact ⟨⟨n, s, a, b, false, t, d4, e4⟩, ((P4 : Nat) : Int), true, rfl, HTL.out, fun _ => ⟨P4, rfl, by omega, HRD.out⟩, fun h => (by cases h), put_below HB.out (Nat.le_refl _) _ _ _ _ _ _ _ _⟩
                  · have hne : (f4 != 0) = true := by simpa using h4
                    have hR2 := hRP.trans (hbad4 (show bit x 4 = true by rw [bit4 hx0 h7]; exact hd) h4)
                    clear hyes4 hbad4 hok4 hv4 h4 HD
                    obtain ⟨c0, c1, c2, c3, c4, c5, c6, c7⟩ := HC.out.cs
                    obtain ⟨r0, r1, r2, r3, r4, r5, r6, r7⟩ := HR.out.cs
                    have zr := HR.out.fz
                    have zc := HC.out.fz
                    have HRD := Lib.hid (show readS l = none by exact hR2)
                    go_wp2
                    refine bodyPost_ret (res_cell_tmp2 rfl _ _ w.heap.size 50 _ (0, 0) _ (.int .i64 0) (.bool false) rfl rfl rfl (HR.out.put n s a b false t 0 0) Tryd.underlying50 rfl (sizeC _ _ _ _ _ _ _ _)) rfl ?_
                    exact ⟨⟨n, s, a, b, false, t, 0, 0⟩, 0, false, rfl, HTL.out, fun h => (by cases h), fun _ => HRD.out, put_below HB.out (Nat.le_refl _) _ _ _ _ _ _ _ _⟩
              · have hne : (f3 != 0) = true := by simpa using h3
                have hR2 := hRP0.trans (parts_none hb1 (hm4 h3))
                clear hm4 hm5 hok3 hv3 h3 c0 c1 c2 c3 c4 c5 c6 c7 r0 r1 r2 r3 r4 r5 r6 r7 zr zc
                obtain ⟨c0, c1, c2, c3, c4, c5, c6, c7⟩ := HC.out.cs
                obtain ⟨r0, r1, r2, r3, r4, r5, r6, r7⟩ := HR.out.cs
                have zr := HR.out.fz
                have zc := HC.out.fz
                have HRD := Lib.hid (show readS l = none by exact hR2)
                go_wp2
                refine bodyPost_ret (res_cell_tmp2 rfl _ _ w.heap.size 50 _ (0, 0) _ (.int .i64 0) (.bool false) rfl rfl rfl (HR.out.put n s a b false [] 0 0) Tryd.underlying50 rfl (sizeC _ _ _ _ _ _ _ _)) rfl ?_
                exact ⟨⟨n, s, a, b, false, [], 0, 0⟩, 0, false, rfl, Nat.zero_le _, fun h => (by cases h), fun _ => HRD.out, put_below HB.out (Nat.le_refl _) _ _ _ _ _ _ _ _⟩
          · have hne : (f2 != 0) = true := by simpa using h2
            have hR2 := hRP0.trans (parts_none hb1 (hm2 _ h2))
            clear hm2 hok2 hv2 h2 HST HVC
            obtain ⟨c0, c1, c2, c3, c4, c5, c6, c7⟩ := HC.out.cs
            obtain ⟨r0, r1, r2, r3, r4, r5, r6, r7⟩ := HR.out.cs
            have zr := HR.out.fz
            have zc := HC.out.fz
            have HRD := Lib.hid (show readS l = none by exact hR2)
            go_wp2
            refine bodyPost_ret (res_cell_tmp2 rfl _ _ w.heap.size 50 _ (0, 0) _ (.int .i64 0) (.bool false) rfl rfl rfl (HR.out.put 0 0 0 0 false [] 0 0) Tryd.underlying50 rfl (sizeC _ _ _ _ _ _ _ _)) rfl ?_
            exact ⟨⟨0, 0, 0, 0, false, [], 0, 0⟩, 0, false, rfl, Nat.zero_le _, fun h => (by cases h), fun _ => HRD.out, put_below HB.out (Nat.le_refl _) _ _ _ _ _ _ _ _⟩
        · have hne : (f1 != 0) = true := by simpa using h1
          have hR2 := hRP0.trans (parts_none hb1 (hm1 _ h1))
          clear hm1 hok1 hv1 h1 HST
          obtain ⟨c0, c1, c2, c3, c4, c5, c6, c7⟩ := HC.out.cs
          obtain ⟨r0, r1, r2, r3, r4, r5, r6, r7⟩ := HR.out.cs
          have zr := HR.out.fz
          have zc := HC.out.fz
          have HRD := Lib.hid (show readS l = none by exact hR2)
          go_wp2
          refine bodyPost_ret (res_cell_tmp2 rfl _ _ w.heap.size 50 _ (0, 0) _ (.int .i64 0) (.bool false) rfl rfl rfl (HR.out.put 0 0 0 0 false [] 0 0) Tryd.underlying50 rfl (sizeC _ _ _ _ _ _ _ _)) rfl ?_
          exact ⟨⟨0, 0, 0, 0, false, [], 0, 0⟩, 0, false, rfl, Nat.zero_le _, fun h => (by cases h), fun _ => HRD.out, put_below HB.out (Nat.le_refl _) _ _ _ _ _ _ _ _⟩
    · have h7b : 7 < x := by omega
      have hR2 := HBG.out h7b
      clear HBG HE hat hok
      obtain ⟨c0, c1, c2, c3, c4, c5, c6, c7⟩ := HC.out.cs
      obtain ⟨r0, r1, r2, r3, r4, r5, r6, r7⟩ := HR.out.cs
      have zr := HR.out.fz
      have zc := HC.out.fz
      have HRD := Lib.hid (show readS l = none by exact hR2)
      go_wp2
      refine bodyPost_ret (res_cell_tmp2 rfl _ _ w.heap.size 50 _ (0, 0) _ (.int .i64 0) (.bool false) rfl rfl rfl (HR.out.put 0 0 0 0 false [] 0 0) Tryd.underlying50 rfl (sizeC _ _ _ _ _ _ _ _)) rfl ?_
      exact ⟨⟨0, 0, 0, 0, false, [], 0, 0⟩, 0, false, rfl, Nat.zero_le _, fun h => (by cases h), fun _ => HRD.out, put_below HB.out (Nat.le_refl _) _ _ _ _ _ _ _ _⟩
  · have hne : (f0 != 0) = true := by simpa using hf0
    have hR2 := HE.out hf0
    clear HBG HE hat hok hf0
    obtain ⟨c0, c1, c2, c3, c4, c5, c6, c7⟩ := HC.out.cs
    obtain ⟨r0, r1, r2, r3, r4, r5, r6, r7⟩ := HR.out.cs
    have zr := HR.out.fz
    have zc := HC.out.fz
    have HRD := Lib.hid (show readS l = none by exact hR2)
    go_wp2
    refine bodyPost_ret (res_cell_tmp2 rfl _ _ w.heap.size 50 _ (0, 0) _ (.int .i64 0) (.bool false) rfl rfl rfl (HR.out.put 0 0 0 0 false [] 0 0) Tryd.underlying50 rfl (sizeC _ _ _ _ _ _ _ _)) rfl ?_
    exact ⟨⟨0, 0, 0, 0, false, [], 0, 0⟩, 0, false, rfl, Nat.zero_le _, fun h => (by cases h), fun _ => HRD.out, put_below HB.out (Nat.le_refl _) _ _ _ _ _ _ _ _⟩
end Go.Proofs.YtkjpmdpljdgcjaaDoor
