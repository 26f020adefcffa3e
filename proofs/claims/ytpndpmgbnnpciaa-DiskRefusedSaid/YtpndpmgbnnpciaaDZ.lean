/-
  Disk: the program's laws: the walk of DiskRefused.
-/
import Derived.Test.YtpndpmgbnnpciaaDY
import Derived.Shelf.Abstract
namespace Go.Proofs.Ytpndpmgbnnpciaa
open Go.RowKit Go Go.Sort Go.Maps Go.WideMaps
set_option linter.unusedVariables false
set_option maxRecDepth 20000

set_option maxRecDepth 100000 in
set_option maxHeartbeats 25600000 in
theorem drefused_walk {w : World} {a : Option Addr} {n cap : Nat} {L : List Dc} (hl : Dcs w a n cap L) : Calls Try.prog 5 #[.slice a n cap] w (Tells (.bool true) w) := by
  have hle := hl.le
  have hmax := hl.max
  have HLL := Lib.hid hl.len
  have HL := Lib.hid hl
  have HLT := Lib.hid (dlight_c hl)
  clear hl
  go_enter Try.func5, Try.ntmps5
  go_upto_region 2 with (go_at_call 16; (with_reducible refine HLT.out.mono ?_); rintro e1 w1 ⟨b1, rfl, hb1, hB1⟩; have HB1 := Lib.hid hB1; have HLI := Lib.hid hb1; clear hB1 hb1; cases b1)
  · go_wp2_with (go_at_call 17; (with_reducible refine (dlives_c _).mono ?_); rintro e8 w8 ⟨rfl, hb8⟩)
    go_ret
    exact ⟨rfl, HB1.out.trans (hb8.mono HB1.out.size)⟩
  · go_wp2_with (go_at_call 12; (with_reducible refine (lv_new 300 _ (by omega) (by omega)).mono ?_); rintro e2 w2 ⟨q, rfl, hl2⟩; have HL2 := Lib.hid hl2; clear hl2)
    go_loopw [20] (fun j wr => ∃ (i : Nat) (st : Ds), i ≤ n ∧ j = .int .i64 (i : Int) ∧ Lv w1 wr q st ∧ Calm st) (fun j _ => n - (intOf j).toNat)
    case atStart => exact ⟨0, _, by omega, rfl, HL2.out, ⟨rfl, rfl, rfl, by decide, List.Pairwise.nil⟩⟩
    case round =>
      obtain ⟨i, st, hi, rfl, hlv, hc⟩ := hrel
      have HLV := Lib.hid hlv
      have HC := Lib.hid hc
      have HBW := Lib.hid (HB1.out.trans (hlv.b.mono HB1.out.size))
      clear hlv hc
      by_cases hlt : i < n
      · have hii : (i : Int) < (n : Int) := by omega
        have hic : (i : Int) < (cap : Int) := by omega
        obtain ⟨b, off, xa, ca, rfl, hy, hk1, hnn, hat⟩ := HL.out.place hlt
        obtain ⟨c0, c1, c2, c3, c4⟩ := hat _ HBW.out
        have hml := HLI.out trivial (L.getD i Dc.zero) (by
          rw [List.getD_eq_getElem?_getD, List.getElem?_eq_getElem (by have := HLL.out; omega)]
          exact List.getElem_mem _)
        obtain ⟨A, hA⟩ : ∃ z, L.getD i Dc.zero = z := ⟨_, rfl⟩
        rw [hA] at c0 c1 c2 c3 c4 hk1 hy hml
        obtain ⟨kd, nm, av, l, nA, kp⟩ := A
        replace hk1 : nm.length ≤ 9223372036854775807 := hk1
        replace hml : l.length ≤ 20000 := hml
        replace hy : Bys w xa l.length ca l := hy
        obtain ⟨m, hm⟩ : ∃ z, l.length = z := ⟨_, rfl⟩
        obtain ⟨tx, htx⟩ : ∃ s, text nm = s := ⟨_, rfl⟩
        replace c0 : wr.cell? ⟨b, off + i * 5, none⟩ = some (.int .i64 kd) := c0
        replace c1 : wr.cell? ⟨b, off + i * 5 + 1, none⟩ = some (.string (text nm)) := c1
        replace c2 : wr.cell? ⟨b, off + i * 5 + 2, none⟩ = some (.slice xa l.length ca) := c2
        replace c3 : wr.cell? ⟨b, off + i * 5 + 3, none⟩ = some (.int .i64 nA) := c3
        replace c4 : wr.cell? ⟨b, off + i * 5 + 4, none⟩ = some (.int .i64 kp) := c4
        rw [htx] at c1
        rw [hm] at c2 hy
        have hz := heap_alloc_new wr (.cells #[.int .i64 kd, .string tx, .slice xa m ca, .int .i64 nA, .int .i64 kp] 32)
        have hba := alloc_below wr (.cells #[.int .i64 kd, .string tx, .slice xa m ca, .int .i64 nA, .int .i64 kp] 32)
        have HY := Lib.hid (hy.below HB1.out)
        have HML := Lib.hid (show l.length ≤ 1000000 by omega)
        have HK1 := Lib.hid hk1
        have HTX := Lib.hid htx
        have HLV1 := Lib.hid (HLV.out.keep hba)
        have HZ := Lib.hid hz
        clear hA hy hml hk1 htx hat hnn hm hba hz
        go_upto_region 9 with (fail)
        obtain ⟨WX, hWX⟩ : ∃ X, wr.alloc (.cells #[.int .i64 kd, .string tx, .slice xa m ca, .int .i64 nA, .int .i64 kp] 32) = X := ⟨_, rfl⟩
        obtain ⟨z, hzs⟩ : ∃ z, wr.heap.size = z := ⟨_, rfl⟩
        rw [hWX] at HLV1 HZ
        rw [hzs] at HZ
        simp only [hWX, hzs]
        clear hWX hzs c0 c1 c2 c3 c4
        obtain ⟨U, hU⟩ : ∃ z, usedF st.F = z := ⟨_, rfl⟩
        obtain ⟨O, hO⟩ : ∃ z, st.ops = z := ⟨_, rfl⟩
        have HU := Lib.hid hU
        have HO := Lib.hid hO
        have HON := Lib.hid HC.out.on
        clear hU hO
        go_upto_region 10 with (first
          | (go_at_call 31; (with_reducible refine (lvn_names HLV1.out rfl).mono ?_); rintro e3 w3 ⟨v3, rfl, hn3, hb3⟩; have HN := Lib.hid hn3; have HB3 := Lib.hid hb3; clear hn3 hb3)
          | (go_at_call 32; (with_reducible refine (lvn_used HN.out HU.out).mono ?_); rintro e4 w4 ⟨rfl, hn4, hb4⟩; have HN4 := Lib.hid hn4; have HB4 := Lib.hid (HB3.out.trans (hb4.mono HB3.out.size)); clear hn4 hb4)
          | (go_at_call 33; (with_reducible refine (lvn_ops HN4.out HO.out).mono ?_); rintro e5 w5 ⟨rfl, rfl⟩)
          | (go_at_call 34; (with_reducible refine (lvn_on HN4.out HON.out).mono ?_); rintro e5 w5 ⟨rfl, rfl⟩))
        obtain ⟨d0, d1, d2, d3, d4⟩ := dact_cells (heapB HZ.out HB4.out)
        replace HN := HN4
        clear HLV1 HN4
        by_cases k0 : kd = 0
        · subst k0
          obtain ⟨r, st', heq⟩ : ∃ r st', st.make nm = (r, st') := ⟨_, _, rfl⟩
          have hst := step_make HC.out nm
          rw [heq] at hst
          have HEQ := Lib.hid heq
          clear heq
          rcases hst with ⟨hr, s1, s2, s3, s4, s5⟩ | ⟨hr, hs⟩
          · replace hr : r = 0 := hr
            replace s1 : st'.on = true := s1
            replace s2 : st'.plan = false := s2
            replace s3 : st'.room = 300 := s3
            replace s4 : usedF st'.F ≤ 300 := s4
            replace s5 : st'.ops = wr64 (st.ops + 1) := s5
            subst hr
            obtain ⟨U2, hU2⟩ : ∃ z, usedF st'.F = z := ⟨_, rfl⟩
            obtain ⟨O2, hO2⟩ : ∃ z, st'.ops = z := ⟨_, rfl⟩
            have hu : ¬ (300 : Int) < (U2 : Int) := by omega
            have hw1 : IntKind.i64.wrap (O + 1) = O2 := by rw [← hO2, s5, HO.out]; rfl
            have hw2 : wrap64 (O + 1) = O2 := by rw [← hw1, IntKind.wrap_i64]; unfold wrap64; omega
            have HU2 := Lib.hid hU2
            have HO2 := Lib.hid hO2
            have HS := Lib.hid (And.intro s1 (And.intro s2 (And.intro s3 s4)))
            clear s1 s2 s3 s4 s5 hU2 hO2
            go_wp2_with (first
              | (go_at_call 28; (with_reducible refine (lvn_make HN.out nm HK1.out HEQ.out HTX.out).mono ?_); rintro e6 w6 ⟨rfl, hn6⟩; have HN6 := Lib.hid hn6; clear hn6)
              | (go_at_call 32; (with_reducible refine (lvn_used HN6.out HU2.out).mono ?_); rintro e7 w7 ⟨rfl, hn7, -⟩; have HN7 := Lib.hid hn7; clear hn7)
              | (go_at_call 33; (with_reducible refine (lvn_ops HN7.out HO2.out).mono ?_); rintro e8 w8 ⟨rfl, rfl⟩))
            go_roundw
            case rel => exact ⟨i + 1, st', by omega, by go_num, HN7.out.lv, ⟨HS.out.1, HS.out.2.1, HS.out.2.2.1, HS.out.2.2.2, HN7.out.lv.asc⟩⟩
            case measure => simp [intOf]; omega
          · replace hr : ¬ r = 0 := hr
            have hs' : st' = st := hs
            subst hs'
            have hr0 : (r == 0) = false := by simpa using hr
            have hu : ¬ (300 : Int) < (U : Int) := by have := HC.out.used; have := HU.out; omega
            clear hs
            go_wp2_with (first
              | (go_at_call 28; (with_reducible refine (lvn_make HN.out nm HK1.out HEQ.out HTX.out).mono ?_); rintro e6 w6 ⟨rfl, hn6⟩; have HN6 := Lib.hid hn6; clear hn6)
              | (go_at_call 31; (with_reducible refine (lvn_names2 HN7.out rfl).mono ?_); rintro e8 w8 ⟨u8, rfl, ht8, hn8⟩; have HT8 := Lib.hid ht8; have HN8 := Lib.hid hn8; clear ht8 hn8)
              | (go_at_call 36; (with_reducible refine (lvn_texts HN8.out HT8.out).mono ?_); rintro e9 w9 ⟨rfl, hn9⟩; have HN9 := Lib.hid hn9; clear hn9)
              | (go_at_call 32; (with_reducible refine (lvn_used HN9.out HU.out).mono ?_); rintro e10 w10 ⟨rfl, hn10, -⟩; have HN10 := Lib.hid hn10; clear hn10)
              | (go_at_call 32; (with_reducible refine (lvn_used HN6.out HU.out).mono ?_); rintro e7 w7 ⟨rfl, hn7, -⟩; have HN7 := Lib.hid hn7; clear hn7)
              | (go_at_call 33; (with_reducible refine (lvn_ops HN10.out HO.out).mono ?_); rintro e11 w11 ⟨rfl, rfl⟩)
              | (go_at_call 34; (with_reducible refine (lvn_on HN10.out HON.out).mono ?_); rintro e12 w12 ⟨rfl, rfl⟩))
            go_roundw
            case rel => exact ⟨i + 1, _, by omega, by go_num, HN10.out.lv, HC.out⟩
            case measure => simp [intOf]; omega
        · have n0 : (kd == 0) = false := by simpa using k0
          by_cases k1 : kd = 1
          · subst k1
            obtain ⟨r, st', heq⟩ : ∃ r st', st.append nm l = (r, st') := ⟨_, _, rfl⟩
            have hst := step_append HC.out nm l
            rw [heq] at hst
            have HEQ := Lib.hid heq
            clear heq
            rcases hst with ⟨hr, s1, s2, s3, s4, s5⟩ | ⟨hr, hs⟩
            · replace hr : r = 0 := hr
              replace s1 : st'.on = true := s1
              replace s2 : st'.plan = false := s2
              replace s3 : st'.room = 300 := s3
              replace s4 : usedF st'.F ≤ 300 := s4
              replace s5 : st'.ops = wr64 (st.ops + 1) := s5
              subst hr
              obtain ⟨U2, hU2⟩ : ∃ z, usedF st'.F = z := ⟨_, rfl⟩
              obtain ⟨O2, hO2⟩ : ∃ z, st'.ops = z := ⟨_, rfl⟩
              have hu : ¬ (300 : Int) < (U2 : Int) := by omega
              have hw1 : IntKind.i64.wrap (O + 1) = O2 := by rw [← hO2, s5, HO.out]; rfl
              have hw2 : wrap64 (O + 1) = O2 := by rw [← hw1, IntKind.wrap_i64]; unfold wrap64; omega
              have HU2 := Lib.hid hU2
              have HO2 := Lib.hid hO2
              have HS := Lib.hid (And.intro s1 (And.intro s2 (And.intro s3 s4)))
              clear s1 s2 s3 s4 s5 hU2 hO2
              go_wp2_with (first
                | (go_at_call 29; (with_reducible refine (lvn_append HN.out nm HK1.out HY.out HML.out HEQ.out HTX.out).mono ?_); rintro e6 w6 ⟨rfl, hn6⟩; have HN6 := Lib.hid hn6; clear hn6)
                | (go_at_call 32; (with_reducible refine (lvn_used HN6.out HU2.out).mono ?_); rintro e7 w7 ⟨rfl, hn7, -⟩; have HN7 := Lib.hid hn7; clear hn7)
                | (go_at_call 33; (with_reducible refine (lvn_ops HN7.out HO2.out).mono ?_); rintro e8 w8 ⟨rfl, rfl⟩))
              go_roundw
              case rel => exact ⟨i + 1, st', by omega, by go_num, HN7.out.lv, ⟨HS.out.1, HS.out.2.1, HS.out.2.2.1, HS.out.2.2.2, HN7.out.lv.asc⟩⟩
              case measure => simp [intOf]; omega
            · replace hr : ¬ r = 0 := hr
              have hs' : st' = st := hs
              subst hs'
              have hr0 : (r == 0) = false := by simpa using hr
              have hu : ¬ (300 : Int) < (U : Int) := by have := HC.out.used; have := HU.out; omega
              clear hs
              go_wp2_with (first
                | (go_at_call 29; (with_reducible refine (lvn_append HN.out nm HK1.out HY.out HML.out HEQ.out HTX.out).mono ?_); rintro e6 w6 ⟨rfl, hn6⟩; have HN6 := Lib.hid hn6; clear hn6)
                | (go_at_call 31; (with_reducible refine (lvn_names2 HN7.out rfl).mono ?_); rintro e8 w8 ⟨u8, rfl, ht8, hn8⟩; have HT8 := Lib.hid ht8; have HN8 := Lib.hid hn8; clear ht8 hn8)
                | (go_at_call 36; (with_reducible refine (lvn_texts HN8.out HT8.out).mono ?_); rintro e9 w9 ⟨rfl, hn9⟩; have HN9 := Lib.hid hn9; clear hn9)
                | (go_at_call 32; (with_reducible refine (lvn_used HN9.out HU.out).mono ?_); rintro e10 w10 ⟨rfl, hn10, -⟩; have HN10 := Lib.hid hn10; clear hn10)
                | (go_at_call 32; (with_reducible refine (lvn_used HN6.out HU.out).mono ?_); rintro e7 w7 ⟨rfl, hn7, -⟩; have HN7 := Lib.hid hn7; clear hn7)
                | (go_at_call 33; (with_reducible refine (lvn_ops HN10.out HO.out).mono ?_); rintro e11 w11 ⟨rfl, rfl⟩)
                | (go_at_call 34; (with_reducible refine (lvn_on HN10.out HON.out).mono ?_); rintro e12 w12 ⟨rfl, rfl⟩))
              go_roundw
              case rel => exact ⟨i + 1, _, by omega, by go_num, HN10.out.lv, HC.out⟩
              case measure => simp [intOf]; omega
          · have n1 : (kd == 1) = false := by simpa using k1
            by_cases k2 : kd = 2
            · subst k2
              obtain ⟨r, st', heq⟩ : ∃ r st', st.sync nm = (r, st') := ⟨_, _, rfl⟩
              have hst := step_sync HC.out nm
              rw [heq] at hst
              have HEQ := Lib.hid heq
              clear heq
              rcases hst with ⟨hr, s1, s2, s3, s4, s5⟩ | ⟨hr, hs⟩
              · replace hr : r = 0 := hr
                replace s1 : st'.on = true := s1
                replace s2 : st'.plan = false := s2
                replace s3 : st'.room = 300 := s3
                replace s4 : usedF st'.F ≤ 300 := s4
                replace s5 : st'.ops = wr64 (st.ops + 1) := s5
                subst hr
                obtain ⟨U2, hU2⟩ : ∃ z, usedF st'.F = z := ⟨_, rfl⟩
                obtain ⟨O2, hO2⟩ : ∃ z, st'.ops = z := ⟨_, rfl⟩
                have hu : ¬ (300 : Int) < (U2 : Int) := by omega
                have hw1 : IntKind.i64.wrap (O + 1) = O2 := by rw [← hO2, s5, HO.out]; rfl
                have hw2 : wrap64 (O + 1) = O2 := by rw [← hw1, IntKind.wrap_i64]; unfold wrap64; omega
                have HU2 := Lib.hid hU2
                have HO2 := Lib.hid hO2
                have HS := Lib.hid (And.intro s1 (And.intro s2 (And.intro s3 s4)))
                clear s1 s2 s3 s4 s5 hU2 hO2
                go_wp2_with (first
                  | (go_at_call 30; (with_reducible refine (lvn_sync HN.out nm HK1.out HEQ.out HTX.out).mono ?_); rintro e6 w6 ⟨rfl, hn6⟩; have HN6 := Lib.hid hn6; clear hn6)
                  | (go_at_call 32; (with_reducible refine (lvn_used HN6.out HU2.out).mono ?_); rintro e7 w7 ⟨rfl, hn7, -⟩; have HN7 := Lib.hid hn7; clear hn7)
                  | (go_at_call 33; (with_reducible refine (lvn_ops HN7.out HO2.out).mono ?_); rintro e8 w8 ⟨rfl, rfl⟩))
                go_roundw
                case rel => exact ⟨i + 1, st', by omega, by go_num, HN7.out.lv, ⟨HS.out.1, HS.out.2.1, HS.out.2.2.1, HS.out.2.2.2, HN7.out.lv.asc⟩⟩
                case measure => simp [intOf]; omega
              · replace hr : ¬ r = 0 := hr
                have hs' : st' = st := hs
                subst hs'
                have hr0 : (r == 0) = false := by simpa using hr
                have hu : ¬ (300 : Int) < (U : Int) := by have := HC.out.used; have := HU.out; omega
                clear hs
                go_wp2_with (first
                  | (go_at_call 30; (with_reducible refine (lvn_sync HN.out nm HK1.out HEQ.out HTX.out).mono ?_); rintro e6 w6 ⟨rfl, hn6⟩; have HN6 := Lib.hid hn6; clear hn6)
                  | (go_at_call 31; (with_reducible refine (lvn_names2 HN7.out rfl).mono ?_); rintro e8 w8 ⟨u8, rfl, ht8, hn8⟩; have HT8 := Lib.hid ht8; have HN8 := Lib.hid hn8; clear ht8 hn8)
                  | (go_at_call 36; (with_reducible refine (lvn_texts HN8.out HT8.out).mono ?_); rintro e9 w9 ⟨rfl, hn9⟩; have HN9 := Lib.hid hn9; clear hn9)
                  | (go_at_call 32; (with_reducible refine (lvn_used HN9.out HU.out).mono ?_); rintro e10 w10 ⟨rfl, hn10, -⟩; have HN10 := Lib.hid hn10; clear hn10)
                  | (go_at_call 32; (with_reducible refine (lvn_used HN6.out HU.out).mono ?_); rintro e7 w7 ⟨rfl, hn7, -⟩; have HN7 := Lib.hid hn7; clear hn7)
                  | (go_at_call 33; (with_reducible refine (lvn_ops HN10.out HO.out).mono ?_); rintro e11 w11 ⟨rfl, rfl⟩)
                  | (go_at_call 34; (with_reducible refine (lvn_on HN10.out HON.out).mono ?_); rintro e12 w12 ⟨rfl, rfl⟩))
                go_roundw
                case rel => exact ⟨i + 1, _, by omega, by go_num, HN10.out.lv, HC.out⟩
                case measure => simp [intOf]; omega
            · have n2 : (kd == 2) = false := by simpa using k2
              by_cases k3 : kd = 3
              · subst k3
                obtain ⟨r, st', heq⟩ : ∃ r st', st.cut nm nA = (r, st') := ⟨_, _, rfl⟩
                have hst := step_cut HC.out nm nA
                rw [heq] at hst
                have HEQ := Lib.hid heq
                clear heq
                rcases hst with ⟨hr, s1, s2, s3, s4, s5⟩ | ⟨hr, hs⟩
                · replace hr : r = 0 := hr
                  replace s1 : st'.on = true := s1
                  replace s2 : st'.plan = false := s2
                  replace s3 : st'.room = 300 := s3
                  replace s4 : usedF st'.F ≤ 300 := s4
                  replace s5 : st'.ops = wr64 (st.ops + 1) := s5
                  subst hr
                  obtain ⟨U2, hU2⟩ : ∃ z, usedF st'.F = z := ⟨_, rfl⟩
                  obtain ⟨O2, hO2⟩ : ∃ z, st'.ops = z := ⟨_, rfl⟩
                  have hu : ¬ (300 : Int) < (U2 : Int) := by omega
                  have hw1 : IntKind.i64.wrap (O + 1) = O2 := by rw [← hO2, s5, HO.out]; rfl
                  have hw2 : wrap64 (O + 1) = O2 := by rw [← hw1, IntKind.wrap_i64]; unfold wrap64; omega
                  have HU2 := Lib.hid hU2
                  have HO2 := Lib.hid hO2
                  have HS := Lib.hid (And.intro s1 (And.intro s2 (And.intro s3 s4)))
                  clear s1 s2 s3 s4 s5 hU2 hO2
                  go_wp2_with (first
                    | (go_at_call 35; (with_reducible refine (lvn_cut HN.out nm HK1.out HEQ.out HTX.out).mono ?_); rintro e6 w6 ⟨rfl, hn6⟩; have HN6 := Lib.hid hn6; clear hn6)
                    | (go_at_call 32; (with_reducible refine (lvn_used HN6.out HU2.out).mono ?_); rintro e7 w7 ⟨rfl, hn7, -⟩; have HN7 := Lib.hid hn7; clear hn7)
                    | (go_at_call 33; (with_reducible refine (lvn_ops HN7.out HO2.out).mono ?_); rintro e8 w8 ⟨rfl, rfl⟩))
                  go_roundw
                  case rel => exact ⟨i + 1, st', by omega, by go_num, HN7.out.lv, ⟨HS.out.1, HS.out.2.1, HS.out.2.2.1, HS.out.2.2.2, HN7.out.lv.asc⟩⟩
                  case measure => simp [intOf]; omega
                · replace hr : ¬ r = 0 := hr
                  have hs' : st' = st := hs
                  subst hs'
                  have hr0 : (r == 0) = false := by simpa using hr
                  have hu : ¬ (300 : Int) < (U : Int) := by have := HC.out.used; have := HU.out; omega
                  clear hs
                  go_wp2_with (first
                    | (go_at_call 35; (with_reducible refine (lvn_cut HN.out nm HK1.out HEQ.out HTX.out).mono ?_); rintro e6 w6 ⟨rfl, hn6⟩; have HN6 := Lib.hid hn6; clear hn6)
                    | (go_at_call 31; (with_reducible refine (lvn_names2 HN7.out rfl).mono ?_); rintro e8 w8 ⟨u8, rfl, ht8, hn8⟩; have HT8 := Lib.hid ht8; have HN8 := Lib.hid hn8; clear ht8 hn8)
                    | (go_at_call 36; (with_reducible refine (lvn_texts HN8.out HT8.out).mono ?_); rintro e9 w9 ⟨rfl, hn9⟩; have HN9 := Lib.hid hn9; clear hn9)
                    | (go_at_call 32; (with_reducible refine (lvn_used HN9.out HU.out).mono ?_); rintro e10 w10 ⟨rfl, hn10, -⟩; have HN10 := Lib.hid hn10; clear hn10)
                    | (go_at_call 32; (with_reducible refine (lvn_used HN6.out HU.out).mono ?_); rintro e7 w7 ⟨rfl, hn7, -⟩; have HN7 := Lib.hid hn7; clear hn7)
                    | (go_at_call 33; (with_reducible refine (lvn_ops HN10.out HO.out).mono ?_); rintro e11 w11 ⟨rfl, rfl⟩)
                    | (go_at_call 34; (with_reducible refine (lvn_on HN10.out HON.out).mono ?_); rintro e12 w12 ⟨rfl, rfl⟩))
                  go_roundw
                  case rel => exact ⟨i + 1, _, by omega, by go_num, HN10.out.lv, HC.out⟩
                  case measure => simp [intOf]; omega
              · have n3 : (kd == 3) = false := by simpa using k3
                by_cases k4 : kd = 4
                · subst k4
                  obtain ⟨r, st', heq⟩ : ∃ r st', st.drop nm = (r, st') := ⟨_, _, rfl⟩
                  have hst := step_drop HC.out nm
                  rw [heq] at hst
                  have HEQ := Lib.hid heq
                  clear heq
                  rcases hst with ⟨hr, s1, s2, s3, s4, s5⟩ | ⟨hr, hs⟩
                  · replace hr : r = 0 := hr
                    replace s1 : st'.on = true := s1
                    replace s2 : st'.plan = false := s2
                    replace s3 : st'.room = 300 := s3
                    replace s4 : usedF st'.F ≤ 300 := s4
                    replace s5 : st'.ops = wr64 (st.ops + 1) := s5
                    subst hr
                    obtain ⟨U2, hU2⟩ : ∃ z, usedF st'.F = z := ⟨_, rfl⟩
                    obtain ⟨O2, hO2⟩ : ∃ z, st'.ops = z := ⟨_, rfl⟩
                    have hu : ¬ (300 : Int) < (U2 : Int) := by omega
                    have hw1 : IntKind.i64.wrap (O + 1) = O2 := by rw [← hO2, s5, HO.out]; rfl
                    have hw2 : wrap64 (O + 1) = O2 := by rw [← hw1, IntKind.wrap_i64]; unfold wrap64; omega
                    have HU2 := Lib.hid hU2
                    have HO2 := Lib.hid hO2
                    have HS := Lib.hid (And.intro s1 (And.intro s2 (And.intro s3 s4)))
                    clear s1 s2 s3 s4 s5 hU2 hO2
                    go_wp2_with (first
                      | (go_at_call 27; (with_reducible refine (lvn_drop HN.out nm HK1.out HEQ.out HTX.out).mono ?_); rintro e6 w6 ⟨rfl, hn6⟩; have HN6 := Lib.hid hn6; clear hn6)
                      | (go_at_call 32; (with_reducible refine (lvn_used HN6.out HU2.out).mono ?_); rintro e7 w7 ⟨rfl, hn7, -⟩; have HN7 := Lib.hid hn7; clear hn7)
                      | (go_at_call 33; (with_reducible refine (lvn_ops HN7.out HO2.out).mono ?_); rintro e8 w8 ⟨rfl, rfl⟩))
                    go_roundw
                    case rel => exact ⟨i + 1, st', by omega, by go_num, HN7.out.lv, ⟨HS.out.1, HS.out.2.1, HS.out.2.2.1, HS.out.2.2.2, HN7.out.lv.asc⟩⟩
                    case measure => simp [intOf]; omega
                  · replace hr : ¬ r = 0 := hr
                    have hs' : st' = st := hs
                    subst hs'
                    have hr0 : (r == 0) = false := by simpa using hr
                    have hu : ¬ (300 : Int) < (U : Int) := by have := HC.out.used; have := HU.out; omega
                    clear hs
                    go_wp2_with (first
                      | (go_at_call 27; (with_reducible refine (lvn_drop HN.out nm HK1.out HEQ.out HTX.out).mono ?_); rintro e6 w6 ⟨rfl, hn6⟩; have HN6 := Lib.hid hn6; clear hn6)
                      | (go_at_call 31; (with_reducible refine (lvn_names2 HN7.out rfl).mono ?_); rintro e8 w8 ⟨u8, rfl, ht8, hn8⟩; have HT8 := Lib.hid ht8; have HN8 := Lib.hid hn8; clear ht8 hn8)
                      | (go_at_call 36; (with_reducible refine (lvn_texts HN8.out HT8.out).mono ?_); rintro e9 w9 ⟨rfl, hn9⟩; have HN9 := Lib.hid hn9; clear hn9)
                      | (go_at_call 32; (with_reducible refine (lvn_used HN9.out HU.out).mono ?_); rintro e10 w10 ⟨rfl, hn10, -⟩; have HN10 := Lib.hid hn10; clear hn10)
                      | (go_at_call 32; (with_reducible refine (lvn_used HN6.out HU.out).mono ?_); rintro e7 w7 ⟨rfl, hn7, -⟩; have HN7 := Lib.hid hn7; clear hn7)
                      | (go_at_call 33; (with_reducible refine (lvn_ops HN10.out HO.out).mono ?_); rintro e11 w11 ⟨rfl, rfl⟩)
                      | (go_at_call 34; (with_reducible refine (lvn_on HN10.out HON.out).mono ?_); rintro e12 w12 ⟨rfl, rfl⟩))
                    go_roundw
                    case rel => exact ⟨i + 1, _, by omega, by go_num, HN10.out.lv, HC.out⟩
                    case measure => simp [intOf]; omega
                · have n4 : (kd == 4) = false := by simpa using k4
                  have HPW := Lib.hid (show st.power = st by
                    unfold Ds.power
                    have := HON.out
                    cases st
                    simp at this
                    subst this
                    rfl)
                  go_wp2_with (go_at_call 25; (with_reducible refine (lv_power HN.out.lv HPW.out).mono ?_); rintro e6 w6 ⟨rfl, hl6⟩; have HL6 := Lib.hid hl6; clear hl6)
                  go_roundw
                  case rel => exact ⟨i + 1, _, by omega, by go_num, HL6.out, HC.out⟩
                  case measure => simp [intOf]; omega
      · obtain rfl : i = n := by omega
        go_wp2_with (go_at_call 17; (with_reducible refine (dlives_c _).mono ?_); rintro e8 w8 ⟨rfl, hb8⟩)
        go_ret
        exact ⟨rfl, HBW.out.trans (hb8.mono HBW.out.size)⟩
end Go.Proofs.Ytpndpmgbnnpciaa
