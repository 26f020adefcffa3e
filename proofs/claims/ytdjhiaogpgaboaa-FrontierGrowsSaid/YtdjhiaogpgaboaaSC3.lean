/-
  Merged: FRE2 FRE.
-/
import Derived.Deep.QuietTactic
import Derived.StillTail
import Derived.Lib.QuietBelow
import Derived.Test.YtdjhiaogpgaboaaRows
import Derived.WalkKit
import Derived.Lib.Hide
import Derived.BigQuiet
import Derived.BigRegion
import Derived.Deep.Cut
import Derived.Deep.MidRow
import Derived.Great.BuildSlice
import Derived.Outline
import Derived.OwnWalk
import Derived.Laws.Rows
import Derived.ChangeKeysEq
import Derived.Laws.StructEq
import Derived.WalkSpells
import Derived.WalkLawsBesides
import Derived.Laws.CopyOwn
import Derived.WalkSmall
import Derived.Lib.LaidTab
import Derived.Deep.RegionWith
import Derived.Lib.MinMax
import Derived.WideShapes
import Derived.ChangeSame
import Derived.OpenShut
import Derived.Deep.Slices
import Derived.OrdersIn
import Derived.TacticsIn
import Derived.RangeFuncNested
import Derived.RangeFuncBound
import Derived.RangeFuncCalls
import Derived.RangeFuncLeaves
import Derived.Deep.AppendSrc
import Derived.Lib.AppendZerosOnto
import Derived.Lib.SliceRun
import Derived.Lib.Walk
import Derived.Lib.OthersKept
import Derived.Laws.RangeAny
import Derived.Maps.OwnOps
import Derived.Maps.Views
import Derived.ChangeSlices
import Derived.ChangeArms
import Derived.Deep.DeepAppendWide
import Derived.Maps.AppendAt
import Derived.Shelf.Abstract
import Derived.OwnWalkIn
import Derived.TacticsInMore
import Derived.LoopNIn
import Derived.LoopIn
import Derived.Test.YtdjhiaogpgaboaaSC2

section
namespace Go.Proofs.Ytdjhiaogpgaboaa
open Go.RowKit Go Go.Sort
set_option linter.unusedVariables false
set_option maxRecDepth 20000

set_option maxRecDepth 100000 in
set_option maxHeartbeats 12800000 in
theorem fgrows2 {w : World} {site q0 : Int} {a : Option Addr} {m cap : Nat} {l : List Tl} (hl : Tls w a m cap l) (hq0 : wrap64 ((IntKind.u64.wrap site).tmod 2) = q0) (hK : q0 = 1) : Calls Try.prog 7 #[.int .i64 site, .slice a m cap] w (Tells (.bool true) w) := by
  subst hK
  have hle := hl.le
  have hmax := hl.max
  have HL := Lib.hid hl
  have HLV := Lib.hid frlives_c
  have HTH := Lib.hid (fun (f : Ft) (h : f.s = 2) (x y : Int) => show f.theirs x y = x from if_neg (by rw [h]; decide))
  have HMI := Lib.hid (fun (f : Ft) (h : f.s = 2) (x y : Int) => show f.mine x y = y from if_neg (by rw [h]; decide))
  have HN := Lib.hid (fun W => fnew_c 2 W)
  rw [show newF 2 = (⟨2, 0, 0, 0, 0⟩, 0) by decide] at HN
  simp only [ftR] at HN
  clear hl
  have hdd : ∃ d, decide ((300 : Int) < (m : Int)) = d := ⟨_, rfl⟩
  obtain ⟨d, hd⟩ := hdd
  have HM1 := Lib.hid (show d = false → m ≤ 300 from fun h => by rw [h] at hd; have : ¬ ((300 : Int) < (m : Int)) := of_decide_eq_false hd; omega)
  go_enter Try.func7, Try.ntmps7
  go_upto_region 3 with (go_at_call 15; (with_reducible refine (HN.out _).mono ?_); rintro e1 w1 ⟨rfl, hb1⟩)
  clear hq0
  have HB := Lib.hid hb1
  clear hb1
  have hsz := HB.out.size
  have hx := Fb.new w1 23 2 0 0 0 0
  have hbx := alloc_below w1 (.cells #[.int .i64 2, .int .i64 0, .int .i64 0, .int .i64 0, .int .i64 0] 23)
  have HB := Lib.hid (HB.out.trans (hbx.mono HB.out.size))
  obtain ⟨gf, hg⟩ : ∃ q, w1.heap.size = q := ⟨_, rfl⟩
  rw [hg] at hx hsz  ⊢
  have Hgf := Lib.hid hx
  have HGF0 := Lib.hid hsz
  clear hx hbx hg hsz 
  generalize w1.alloc (.cells #[.int .i64 2, .int .i64 0, .int .i64 0, .int .i64 0, .int .i64 0] 23) = W1 at *
  cases d
  · have HMM := Lib.hid (HM1.out rfl)
    go_upto_region 6 with (fail)
    have hsz := HB.out.size
    have hx := Pair.new W1 25 1000 1000
    have hbx := alloc_below W1 (.cells #[.int .i64 1000, .int .i64 1000] 25)
    have Hgf := Lib.hid (Hgf.out.kept hbx)
    have HB := Lib.hid (HB.out.trans (hbx.mono HB.out.size))
    obtain ⟨gk, hg⟩ : ∃ q, W1.heap.size = q := ⟨_, rfl⟩
    rw [hg] at hx hsz  ⊢
    have Hgk := Lib.hid hx
    have HGK := Lib.hid (show w.heap.size ≤ gk ∧ w.heap.size ≤ gf from ⟨hsz, HGF0.out⟩)
    clear hx hbx hg hsz 
    generalize W1.alloc (.cells #[.int .i64 1000, .int .i64 1000] 25) = W2 at *
    have v0 := Hgk.out.c0
    have v1 := Hgk.out.c1
    have y0 := Hgk.out.fz 0
    have y1 := Hgk.out.fz 1
    have hne := fb_ne Hgf.out Hgk.out
    have HNE := Lib.hid hne
    go_upto_region 7 with (fail)
    have Hgf := Lib.hid (Hgf.out.other (p := ⟨gk, 0, none⟩) (.int .i64 0) (fun e => hne e.symm))
    have Hgk := Lib.hid (Hgk.out.set0 0)
    have HB := Lib.hid (HB.out.setCell (p := ⟨gk, 0, none⟩) HGK.out.1 (.int .i64 0))
    clear v0 v1 y0 y1 hne
    generalize W2.setCell ⟨gk, 0, none⟩ (.int .i64 0) = W3 at *
    go_upto_region 9 with (fail)
    go_loopw [9, 46] (fun v i wr => ∃ (j : Nat) (k b t u most c : Int), j ≤ m ∧ i = .int .i64 (j : Int) ∧ v = .int .i64 most ∧ Grw l j ⟨2, k, b, t, u⟩ most ∧ 0 ≤ c ∧ c ≤ 1000 ∧ Fb wr gf 23 2 k b t u ∧ Pair wr gk 25 c 1000 ∧ Below w.heap.size w wr) (fun _ i _ => m - (intOf i).toNat)
    case atStart => exact ⟨0, 0, 0, 0, 0, 0, 0, by omega, rfl, rfl, ⟨by decide, rfl, fun h => absurd h (by decide)⟩, by omega, by omega, Hgf.out, Hgk.out, HB.out⟩
    case round =>
      clear Hgf Hgk HB HN HM1 hd
      obtain ⟨j, k, b, t, u, most, c, hj, rfl, rfl, hgrw, hc0, hc1, hgf, hgk, hB⟩ := hrel
      have HGR := Lib.hid hgrw
      have Hgf := Lib.hid hgf
      have Hgk := Lib.hid hgk
      have HB := Lib.hid hB
      clear hgrw hgf hgk hB
      by_cases hlt : j < m
      · have hji : (j : Int) < (m : Int) := by omega
        have hjc : (j : Int) < (cap : Int) := by omega
        obtain ⟨bl, off, rfl, hat⟩ := HL.out.at hlt
        obtain ⟨x, hx⟩ : ∃ x, l.getD j Tl.zero = x := ⟨_, rfl⟩
        rw [hx] at hat
        obtain ⟨ta, to, tc⟩ := x
        obtain ⟨c0, c1, c2⟩ := hat wr HB.out
        simp only at c0 c1 c2
        have HX := Lib.hid hx
        clear hat hx
        obtain ⟨d0, d1, d2, d3, d4⟩ := Hgf.out.cs
        go_upto_region 11 with (fail)
        clear c0 c1 c2 d0 d1 d2 d3 d4
        have hsz := HB.out.size
        have hlt0 := fb_lt Hgf.out
        have hlt1 := pr_lt Hgk.out
        have hx := Tb3.new wr ta to tc
        have hbx := alloc_below wr (.cells #[.int .i64 ta, .int .i64 to, .int .i64 tc] 76)
        have Hgf := Lib.hid (Hgf.out.kept hbx)
        have Hgk := Lib.hid (Hgk.out.kept hbx)
        have HB := Lib.hid (HB.out.trans (hbx.mono HB.out.size))
        obtain ⟨gx, hg⟩ : ∃ q, wr.heap.size = q := ⟨_, rfl⟩
        rw [hg] at hx hsz hlt0 hlt1 ⊢
        have Hgx := Lib.hid hx
        have HXN := Lib.hid (show gx ≠ gk ∧ gx ≠ gf from ⟨by omega, by omega⟩)
        clear hx hbx hg hsz hlt0 hlt1
        generalize wr.alloc (.cells #[.int .i64 ta, .int .i64 to, .int .i64 tc] 76) = W4 at *
        obtain ⟨d0, d1, d2, d3, d4⟩ := Hgf.out.cs
        go_upto_region 12 with (fail)
        clear d0 d1 d2 d3 d4
        obtain ⟨q, hq, hqa, hqb⟩ := umodF tc 5 (by omega) (by omega)
        obtain ⟨s5, hs5⟩ : ∃ z, c + q = z := ⟨_, rfl⟩
        obtain ⟨c9, hc9⟩ : ∃ z, Min.min 1000 s5 = z := ⟨_, rfl⟩
        have HC9 := Lib.hid (show 0 ≤ c9 ∧ c9 ≤ 1000 ∧ c ≤ c9 by omega)
        have hw5 : IntKind.i64.wrap (c + q) = s5 := by rw [IntKind.wrap_i64]; omega
        have HQ5 := Lib.hid hq
        have HW5 := Lib.hid hw5
        have HC5 := Lib.hid hc9
        have HSS := Lib.hid hs5
        clear hq hw5 hc9 hs5
        refine wp_region_flow_tail 14 [none, none, none, none, none, none, none, none, none, none, none, none, none, none, none, none, none, none, none, none, none, none, none, none, none, none, none, none, none, none, none, none, none, none, none, none, none, none, none, none, none, none, none, none, none, none, none, none, none, none, none, none, none, some 0, some 1, some 2, some 3, some 4, some 5, some 6, some 7, some 8, some 9, some 10, some 11, some 12, some 13, none, none, none, none, none, none, none, none, none, none, none, none, none, none, none, none, none, none, none, none, none, none, none, none, none, none, none, none, none, none, none, none, none, none, none, none, none, none, none, none, none, none, none, none, none, none, none, none, none, none, none, none, none, none, none, none, none, none, none, none, none, none, none, none, none, none, none, none, none, none, none, none, none, none, none, none, none, none, none, none, none, none, none, none, none, none, none, none, none, none, none, none, none, none, none, none, none, none, none, none, none, none] (fun i => [u53, u54, u55, u56, u57, u58, u59, u60, u61, u62, u63, u64, u65, u66].getD i undef) [(fun v _ => v = .int .i64 2), (fun v _ => v = .int .i64 0), (fun v _ => v = .int .i64 2), (fun v _ => v = .int .i64 0), (fun v _ => v = .pointer (some ⟨gk, 0, none⟩)), (fun v _ => v = .int .i64 c), (fun v _ => v = .pointer (some ⟨gx, 2, none⟩)), (fun v _ => v = .int .i64 tc), (fun v _ => v = .int .u64 (IntKind.u64.wrap tc)), (fun v _ => v = .int .u64 ((IntKind.u64.wrap tc).tmod 5)), (fun v _ => v = .int .i64 q), (fun v _ => v = .int .i64 s5), (fun v _ => v = .int .i64 c9), (fun v _ => v = .pointer (some ⟨gk, 0, none⟩))] (fun _ => False) (by kernel_rfl) (by kernel_rfl) (by kernel_rfl) rfl rfl rfl ?_ ?_ ?_
        · intro g hg v X Y hX hY hv
          simp only [List.mem_cons, List.not_mem_nil, or_false] at hg
          rcases hg with rfl | rfl | rfl | rfl | rfl | rfl | rfl | rfl | rfl | rfl | rfl | rfl | rfl | rfl
          all_goals first
            | exact hv
            | exact hv.kept hY
        · simp only [flowOpsF, List.take_succ_cons, List.take_zero, and_true]
          refine ⟨?_, ?_, ?_, ?_, ?_, ?_, ?_, ?_, ?_, ?_, ?_, ?_, ?_, ?_⟩
          · intro xs W hW hn
            simp only [flowAct, List.zipWith_cons_cons, List.zipWith_nil_left]
            go_wp2_with (fail)
            exact ⟨rfl, _, rfl, Below.refl _ _, rfl, fun h => h.elim⟩
          · intro xs W hW hn
            simp [flowNeeds, Region.binds] at hn
            simp only [flowAct, List.zipWith_cons_cons, List.zipWith_nil_left]
            try simp only [hn]
            go_wp2_with (fail)
            exact ⟨rfl, _, rfl, Below.refl _ _, rfl, fun h => h.elim⟩
          · intro xs W hW hn
            simp only [flowAct, List.zipWith_cons_cons, List.zipWith_nil_left]
            go_wp2_with (fail)
            exact ⟨rfl, _, rfl, Below.refl _ _, rfl, fun h => h.elim⟩
          · intro xs W hW hn
            simp [flowNeeds, Region.binds] at hn
            simp only [flowAct, List.zipWith_cons_cons, List.zipWith_nil_left]
            try simp only [hn]
            go_wp2_with (fail)
            exact ⟨rfl, _, rfl, Below.refl _ _, rfl, fun h => h.elim⟩
          · intro xs W hW hn
            simp [flowNeeds, Region.binds] at hn
            simp only [flowAct, List.zipWith_cons_cons, List.zipWith_nil_left]
            try simp only [hn]
            go_wp2_with (fail)
            exact ⟨rfl, _, rfl, Below.refl _ _, rfl, fun h => h.elim⟩
          · intro xs W hW hn
            have v0 := (Hgk.out.kept hW).c0
            have v1 := (Hgk.out.kept hW).c1
            simp [flowNeeds, Region.binds] at hn
            simp only [flowAct, List.zipWith_cons_cons, List.zipWith_nil_left]
            try simp only [hn]
            go_wp2_with (fail)
            exact ⟨rfl, _, rfl, Below.refl _ _, rfl, fun h => h.elim⟩
          · intro xs W hW hn
            simp only [flowAct, List.zipWith_cons_cons, List.zipWith_nil_left]
            go_wp2_with (fail)
            exact ⟨rfl, _, rfl, Below.refl _ _, rfl, fun h => h.elim⟩
          · intro xs W hW hn
            obtain ⟨x0, x1, x2⟩ := (Hgx.out.kept hW).cs
            simp [flowNeeds, Region.binds] at hn
            simp only [flowAct, List.zipWith_cons_cons, List.zipWith_nil_left]
            try simp only [hn]
            go_wp2_with (fail)
            exact ⟨rfl, _, rfl, Below.refl _ _, rfl, fun h => h.elim⟩
          · intro xs W hW hn
            simp [flowNeeds, Region.binds] at hn
            simp only [flowAct, List.zipWith_cons_cons, List.zipWith_nil_left]
            try simp only [hn]
            go_wp2_with (fail)
            exact ⟨rfl, _, rfl, Below.refl _ _, rfl, fun h => h.elim⟩
          · intro xs W hW hn
            simp [flowNeeds, Region.binds] at hn
            simp only [flowAct, List.zipWith_cons_cons, List.zipWith_nil_left]
            try simp only [hn]
            go_wp2_with (fail)
            exact ⟨rfl, _, rfl, Below.refl _ _, rfl, fun h => h.elim⟩
          · intro xs W hW hn
            simp [flowNeeds, Region.binds] at hn
            have hq := HQ5.out
            simp only [flowAct, List.zipWith_cons_cons, List.zipWith_nil_left]
            try simp only [hn]
            go_wp2_with (fail)
            exact ⟨rfl, _, rfl, Below.refl _ _, by first | exact rfl | (show _ = _; rw [hq]), fun h => h.elim⟩
          · intro xs W hW hn
            simp [flowNeeds, Region.binds] at hn
            have hw5 := HW5.out
            have hs5 := HSS.out
            simp only [flowAct, List.zipWith_cons_cons, List.zipWith_nil_left]
            try simp only [hn]
            go_wp2_with (fail)
            exact ⟨rfl, _, rfl, Below.refl _ _, by first | exact rfl | (show _ = _; rw [hs5]), fun h => h.elim⟩
          · intro xs W hW hn
            simp [flowNeeds, Region.binds] at hn
            have hc9 := HC5.out
            simp only [flowAct, List.zipWith_cons_cons, List.zipWith_nil_left]
            try simp only [hn]
            go_wp2_with (fail)
            exact ⟨rfl, _, rfl, Below.refl _ _, by first | exact rfl | (show _ = _; rw [hc9]), fun h => h.elim⟩
          · intro xs W hW hn
            simp [flowNeeds, Region.binds] at hn
            simp only [flowAct, List.zipWith_cons_cons, List.zipWith_nil_left]
            try simp only [hn]
            go_wp2_with (fail)
            exact ⟨rfl, _, rfl, Below.refl _ _, rfl, fun h => h.elim⟩
        · intro xs W hW hall hfr
          clear hfr
          simp only [flowAll, and_true, Nat.zero_add, Nat.reduceAdd] at hall
          obtain ⟨-, -, -, -, -, -, -, -, -, -, -, -, e12, e13⟩ := hall
          simp only [flowAct, List.zipWith_cons_cons, List.zipWith_nil_left, List.drop_succ_cons, List.drop_zero]
          simp only [e12, e13]
          clear e12 e13
          have Hgf := Lib.hid (Hgf.out.kept hW)
          have Hgk := Lib.hid (Hgk.out.kept hW)
          have Hgx := Lib.hid (Hgx.out.kept hW)
          have HB := Lib.hid (HB.out.trans (hW.mono HB.out.size))
          obtain ⟨W5, hW5⟩ : ∃ Z, W = Z := ⟨_, rfl⟩
          rw [hW5] at Hgf Hgk Hgx HB ⊢
          clear hW5 hW HQ5 HW5 HC5 HSS
          have y := Hgk.out.fz 0
          have v0 := Hgk.out.c0
          have v1 := Hgk.out.c1
          go_upto_region 13 with (fail)
          have Hgf := Lib.hid (Hgf.out.other (p := ⟨gk, 0, none⟩) (.int .i64 c9) (fun e => HNE.out e.symm))
          have Hgx := Lib.hid (Hgx.out.other (p := ⟨gk, 0, none⟩) (.int .i64 c9) (fun e => HXN.out.1 e.symm))
          have Hgk := Lib.hid (Hgk.out.set0 c9)
          have HB := Lib.hid (HB.out.setCell (p := ⟨gk, 0, none⟩) HGK.out.1 (.int .i64 c9))
          clear y v0 v1
          generalize W5.setCell ⟨gk, 0, none⟩ (.int .i64 c9) = W6 at *
          obtain ⟨d0, d1, d2, d3, d4⟩ := Hgf.out.cs
          have v0 := Hgk.out.c0
          have v1 := Hgk.out.c1
          obtain ⟨x0, x1, x2⟩ := Hgx.out.cs
          have hvg : vgood c9 1000 = true := by have := HC9.out; simp [vgood]; omega
          have HVG := Lib.hid hvg
          clear hvg hqa hqb hc0 hc1
          have hl1 := fun W => flearn_c 2 k b t u c9 1000 ta to W
          obtain ⟨⟨⟨s9, k9, b9, t9, u9⟩, e9⟩, hle9⟩ : ∃ z, learnS ⟨2, k, b, t, u⟩ c9 1000 ta to = z := ⟨_, rfl⟩
          rw [hle9] at hl1
          simp only [ftR] at hl1
          have HL1 := Lib.hid hl1
          have HLE9 := Lib.hid hle9
          clear hl1 hle9
          go_upto_region 14 with (go_at_call 8; (with_reducible refine (HL1.out _).mono ?_); rintro e7 w7 ⟨rfl, hb7⟩)
          clear d0 d1 d2 d3 d4 v0 v1 x0 x1 x2
          have Hgf := Lib.hid (Hgf.out.kept hb7)
          have Hgk := Lib.hid (Hgk.out.kept hb7)
          have Hgx := Lib.hid (Hgx.out.kept hb7)
          have HB := Lib.hid (HB.out.trans (hb7.mono HB.out.size))
          clear hb7
          have hsz := HB.out.size
          have hlt0 := fb_lt Hgf.out
          have hlt1 := pr_lt Hgk.out
          have hx := Fb.new w7 23 s9 k9 b9 t9 u9
          have hbx := alloc_below w7 (.cells #[.int .i64 s9, .int .i64 k9, .int .i64 b9, .int .i64 t9, .int .i64 u9] 23)
          have Hgf := Lib.hid (Hgf.out.kept hbx)
          have Hgk := Lib.hid (Hgk.out.kept hbx)
          have Hgx := Lib.hid (Hgx.out.kept hbx)
          have HB := Lib.hid (HB.out.trans (hbx.mono HB.out.size))
          obtain ⟨gg, hg⟩ : ∃ q, w7.heap.size = q := ⟨_, rfl⟩
          rw [hg] at hx hsz hlt0 hlt1 ⊢
          have Hgg := Lib.hid hx
          have HGN := Lib.hid (show gg ≠ gk ∧ gg ≠ gf ∧ w.heap.size ≤ gg from ⟨by omega, by omega, hsz⟩)
          clear hx hbx hg hsz hlt0 hlt1
          generalize w7.alloc (.cells #[.int .i64 s9, .int .i64 k9, .int .i64 b9, .int .i64 t9, .int .i64 u9] 23) = W7 at *
          by_cases hok : 0 ≤ ta ∧ ta ≤ 1000 ∧ seqS to = true
          · obtain ⟨ha0, ha1, ha2⟩ := hok
            have htold := HGR.out.told (g := ⟨s9, k9, b9, t9, u9⟩) (e := e9) (x := c9) (y := 1000) HVG.out (by rw [HX.out]; exact ha0) (by rw [HX.out, HMI.out ⟨2, k, b, t, u⟩ rfl]; exact ha1) (by rw [HX.out]; exact ha2) (by rw [HX.out]; exact HLE9.out)
            rw [HX.out, HTH.out ⟨2, k, b, t, u⟩ rfl] at htold
            obtain ⟨rfl, hgj, hgb, hgc, hgs⟩ := htold
            simp only at hgb hgc hgs hgj
            subst hgs
            obtain ⟨mx, hmx⟩ : ∃ z, Max.max most ta = z := ⟨_, rfl⟩
            rw [hmx] at hgj
            have HGJ := Lib.hid hgj
            have HGB := Lib.hid hgb
            have HGC := Lib.hid hgc
            clear hgj hgb hgc ha0 ha1 ha2
            obtain ⟨x0, x1, x2⟩ := Hgx.out.cs
            go_upto_region 19 with (fail)
            clear x0 x1 x2 hmx
            obtain ⟨g0, g1, g2, g3, g4⟩ := Hgg.out.cs
            have hgd := Ft.good_iff.1 HGJ.out.good
            have hak : k9 = mx := HGJ.out.ack
            have h1 : ¬ b9 < b := by have := HGB.out; omega
            have h2 : ¬ k9 < b9 := by have := hgd.2.2.2.2.2.1; simp only at this; omega
            have h3 : (k9 != mx) = false := by rw [hak]; simp
            clear hgd
            have HAK := Lib.hid hak
            clear hak
            go_upto_region 21 with (fail)
            clear h1 h2 h3
            by_cases hri : b < b9
            · have HCM := Lib.hid (hit_came (HGC.out hri))
              have hj1 : IntKind.i64.wrap ((j : Int) + 1) = ((j + 1 : Nat) : Int) := by rw [IntKind.wrap_i64]; have := HMM.out; omega
              have hj2 : ((j + 1 : Nat) : Int) ≤ (cap : Int) := by omega
              have hj3 : (0 : Int) ≤ ((j + 1 : Nat) : Int) := by omega
              obtain ⟨J, hJ⟩ : ∃ z : Nat, j + 1 = z := ⟨_, rfl⟩
              have hjJ : (j : Int) + 1 = (J : Int) := by omega
              rw [hJ] at hj1 hj2 hj3
              have HJ := Lib.hid hJ
              clear hJ
              go_upto_region 24 with (fail)
              clear hri hj1 hj3 g0 g1 g2 g3 g4
              go_loopw [15, 137] (fun v i wq => ∃ (p : Nat), p ≤ J ∧ i = .int .i64 (p : Int) ∧ v = .bool (hitN l b9 c9 p) ∧ Fb wq gf 23 2 k b t u ∧ Fb wq gg 23 2 k9 b9 t9 u9 ∧ Pair wq gk 25 c9 1000 ∧ Below w.heap.size w wq) (fun _ i _ => J - (intOf i).toNat)
              case atStart => exact ⟨0, by omega, rfl, rfl, Hgf.out, Hgg.out, Hgk.out, HB.out⟩
              case round =>
                clear Hgf Hgg Hgk HB Hgx
                obtain ⟨p, hp, rfl, rfl, hgf, hgg, hgk, hB⟩ := hrel
                have Hgf := Lib.hid hgf
                have Hgg := Lib.hid hgg
                have Hgk := Lib.hid hgk
                have HB := Lib.hid hB
                clear hgf hgg hgk hB
                by_cases hpl : p < J
                · have hpi : (p : Int) < (J : Int) := by omega
                  have hpc : (p : Int) < (cap : Int) := by omega
                  obtain ⟨bl2, off2, eab, hat⟩ := HL.out.at (k := p) (by have := HJ.out; omega)
                  injection eab with eab
                  injection eab with eab1 eab2
                  subst eab1 eab2
                  obtain ⟨x, hx⟩ : ∃ x, l.getD p Tl.zero = x := ⟨_, rfl⟩
                  rw [hx] at hat
                  have hst : hitN l b9 c9 (p + 1) = (hitN l b9 c9 p || ((x.a == b9) && (decide (0 ≤ x.o) && decide (x.o ≤ c9)))) := by rw [← hx]; rfl
                  obtain ⟨xa, xo, xc⟩ := x
                  obtain ⟨c0, c1, c2⟩ := hat wr HB.out
                  simp only at c0 c1 c2 hst
                  have HST := Lib.hid hst
                  clear hat hx hst
                  go_upto_region 26 with (fail)
                  clear c0 c1 c2
                  have hsz := HB.out.size
                  have hx := Tb3.new wr xa xo xc
                  have hbx := alloc_below wr (.cells #[.int .i64 xa, .int .i64 xo, .int .i64 xc] 76)
                  have Hgf := Lib.hid (Hgf.out.kept hbx)
                  have Hgg := Lib.hid (Hgg.out.kept hbx)
                  have Hgk := Lib.hid (Hgk.out.kept hbx)
                  have HB := Lib.hid (HB.out.trans (hbx.mono HB.out.size))
                  obtain ⟨gy, hg⟩ : ∃ q, wr.heap.size = q := ⟨_, rfl⟩
                  rw [hg] at hx hsz  ⊢
                  have Hgy := Lib.hid hx
                  clear hx hbx hg hsz 
                  generalize wr.alloc (.cells #[.int .i64 xa, .int .i64 xo, .int .i64 xc] 76) = W9 at *
                  obtain ⟨y0, y1, y2⟩ := Hgy.out.cs
                  obtain ⟨g0, g1, g2, g3, g4⟩ := Hgg.out.cs
                  have v0 := Hgk.out.c0
                  have v1 := Hgk.out.c1
                  obtain ⟨R, hR⟩ : ∃ z, hitN l b9 c9 p = z := ⟨_, rfl⟩
                  rw [hR] at HST ⊢
                  clear hR
                  cases R with
                  | true =>
                    go_quiet (fail)
                    clear y0 y1 y2 g0 g1 g2 g3 g4 v0 v1
                    (try go_wp2)
                    go_roundw
                    case rel => exact ⟨p + 1, by omega, by go_num, by rw [HST.out]; rfl, Hgf.out.kept (drewN_below (Below.refl _ W9) nq), Hgg.out.kept (drewN_below (Below.refl _ W9) nq), Hgk.out.kept (drewN_below (Below.refl _ W9) nq), drewN_below HB.out nq⟩
                    case measure => simp [intOf]; omega
                  | false =>
                    cases h1 : (xa == b9) with
                    | false =>
                      have HE := Lib.hid h1
                      go_quiet (fail)
                      clear y0 y1 y2 g0 g1 g2 g3 g4 v0 v1 h1
                      (try go_wp2)
                      go_roundw
                      case rel => exact ⟨p + 1, by omega, by go_num, by rw [HST.out, HE.out]; rfl, Hgf.out.kept (drewN_below (Below.refl _ W9) nq), Hgg.out.kept (drewN_below (Below.refl _ W9) nq), Hgk.out.kept (drewN_below (Below.refl _ W9) nq), drewN_below HB.out nq⟩
                      case measure => simp [intOf]; omega
                    | true =>
                      have HE := Lib.hid h1
                      by_cases h2 : 0 ≤ xo
                      · have hd2 : decide (0 ≤ xo) = true := decide_eq_true h2
                        have HD2 := Lib.hid hd2
                        by_cases h3 : xo ≤ c9
                        · have hd3 : decide (xo ≤ c9) = true := decide_eq_true h3
                          have HD3 := Lib.hid hd3
                          go_quiet (fail)
                          clear y0 y1 y2 g0 g1 g2 g3 g4 v0 v1 h1 h2 h3 hd2 hd3
                          (try go_wp2)
                          go_roundw
                          case rel => exact ⟨p + 1, by omega, by go_num, by rw [HST.out, HE.out, HD2.out, HD3.out]; rfl, Hgf.out.kept (drewN_below (Below.refl _ W9) nq), Hgg.out.kept (drewN_below (Below.refl _ W9) nq), Hgk.out.kept (drewN_below (Below.refl _ W9) nq), drewN_below HB.out nq⟩
                          case measure => simp [intOf]; omega
                        · have hd3 : decide (xo ≤ c9) = false := decide_eq_false h3
                          have HD3 := Lib.hid hd3
                          go_quiet (fail)
                          clear y0 y1 y2 g0 g1 g2 g3 g4 v0 v1 h1 h2 h3 hd2 hd3
                          (try go_wp2)
                          go_roundw
                          case rel => exact ⟨p + 1, by omega, by go_num, by rw [HST.out, HE.out, HD2.out, HD3.out]; rfl, Hgf.out.kept (drewN_below (Below.refl _ W9) nq), Hgg.out.kept (drewN_below (Below.refl _ W9) nq), Hgk.out.kept (drewN_below (Below.refl _ W9) nq), drewN_below HB.out nq⟩
                          case measure => simp [intOf]; omega
                      · have hd2 : decide (0 ≤ xo) = false := decide_eq_false h2
                        have HD2 := Lib.hid hd2
                        go_quiet (fail)
                        clear y0 y1 y2 g0 g1 g2 g3 g4 v0 v1 h1 h2 hd2
                        (try go_wp2)
                        go_roundw
                        case rel => exact ⟨p + 1, by omega, by go_num, by rw [HST.out, HE.out, HD2.out]; rfl, Hgf.out.kept (drewN_below (Below.refl _ W9) nq), Hgg.out.kept (drewN_below (Below.refl _ W9) nq), Hgk.out.kept (drewN_below (Below.refl _ W9) nq), drewN_below HB.out nq⟩
                        case measure => simp [intOf]; omega
                · obtain rfl : p = J := by omega
                  have hh : hitN l b9 c9 p = true := by rw [← HJ.out]; exact HCM.out
                  rw [hh]
                  clear hh
                  go_upto_region 30 with (fail)
                  obtain ⟨g0, g1, g2, g3, g4⟩ := Hgg.out.cs
                  obtain ⟨d0, d1, d2, d3, d4⟩ := Hgf.out.cs
                  have z0 := Hgf.out.fz 0
                  have z1 := Hgf.out.fz 1
                  have z2 := Hgf.out.fz 2
                  have z3 := Hgf.out.fz 3
                  have z4 := Hgf.out.fz 4
                  (try go_wp2)
                  go_roundw
                  case rel => exact ⟨j + 1, k9, b9, t9, u9, mx, c9, by omega, by go_num, rfl, HGJ.out, HC9.out.1, HC9.out.2.1, Hgf.out.fill 2 k9 b9 t9 u9, ((((Hgk.out.other _ _ HNE.out.symm).other _ _ HNE.out.symm).other _ _ HNE.out.symm).other _ _ HNE.out.symm).other _ _ HNE.out.symm, bel5 HB.out HGK.out.2 _ _ _ _ _⟩
                  case measure => simp [intOf]; omega
            · have h4 : ¬ b < b9 := hri
              clear HGC
              clear h4
              go_upto_region 30 with (fail)
              obtain ⟨g0, g1, g2, g3, g4⟩ := Hgg.out.cs
              obtain ⟨d0, d1, d2, d3, d4⟩ := Hgf.out.cs
              have z0 := Hgf.out.fz 0
              have z1 := Hgf.out.fz 1
              have z2 := Hgf.out.fz 2
              have z3 := Hgf.out.fz 3
              have z4 := Hgf.out.fz 4
              (try go_wp2)
              go_roundw
              case rel => exact ⟨j + 1, k9, b9, t9, u9, mx, c9, by omega, by go_num, rfl, HGJ.out, HC9.out.1, HC9.out.2.1, Hgf.out.fill 2 k9 b9 t9 u9, ((((Hgk.out.other _ _ HNE.out.symm).other _ _ HNE.out.symm).other _ _ HNE.out.symm).other _ _ HNE.out.symm).other _ _ HNE.out.symm, bel5 HB.out HGK.out.2 _ _ _ _ _⟩
              case measure => simp [intOf]; omega
          · have hno : learnS ⟨2, k, b, t, u⟩ c9 1000 ta to = (Ft.zero, 2) := learn_no (by
              by_cases h1 : ta < 0
              · exact .inr (.inl h1)
              · by_cases h2 : 1000 < ta
                · exact .inr (.inr (.inl (by rw [HMI.out ⟨2, k, b, t, u⟩ rfl]; exact h2)))
                · refine .inr (.inr (.inr ?_))
                  rw [Bool.eq_false_iff]
                  exact fun h3 => hok ⟨by omega, by omega, h3⟩)
            have he := HLE9.out.symm.trans hno
            injection he with he1 he2
            injection he1 with i0 i1 i2 i3 i4
            subst i0 i1 i2 i3 i4 he2
            clear hno
            have hse := fun W => fsettle_c 2 k b t u c9 1000 W
            obtain ⟨⟨⟨s8, k8, b8, t8, u8⟩, e8⟩, hs8⟩ : ∃ z, settleS ⟨2, k, b, t, u⟩ c9 1000 = z := ⟨_, rfl⟩
            rw [hs8] at hse
            simp only [ftR] at hse
            have HSE := Lib.hid hse
            have htold := HGR.out.rest (x := c9) (y := 1000) HVG.out hs8
            rw [HTH.out ⟨2, k, b, t, u⟩ rfl] at htold
            obtain ⟨rfl, hgj, hgb, hgc, hgs⟩ := htold
            simp only at hgb hgc hgs hgj
            subst hgs
            have HGJ := Lib.hid hgj
            have HGB := Lib.hid hgb
            have HGC := Lib.hid hgc
            clear hgj hgb hgc hse hs8
            obtain ⟨x0, x1, x2⟩ := Hgx.out.cs
            obtain ⟨d0, d1, d2, d3, d4⟩ := Hgf.out.cs
            have v0 := Hgk.out.c0
            have v1 := Hgk.out.c1
            go_upto_region 15 with (fail)
            have hbad : (0 ≤ ta → ta ≤ 1000 → 0 ≤ to → to ≤ 1099511627776 → False) := fun h1 h2 h3 h4 => hok ⟨h1, h2, seqS_iff.2 ⟨h3, h4⟩⟩
            have HBAD := Lib.hid hbad
            clear hbad hok
            have H17 : True := trivial
            by_cases b1 : 0 ≤ ta
            · by_cases b2 : ta ≤ 1000
              · by_cases b3 : 0 ≤ to
                · by_cases b4 : to ≤ 1099511627776
                  · exact (HBAD.out b1 b2 b3 b4).elim
                  · go_upto_region 17 with (fail)
                    clear b1 b2 b3 b4
                    go_upto_region 19 with (go_at_call 11; (with_reducible refine (HSE.out _).mono ?_); rintro e8 w8 ⟨rfl, hb8⟩; have HFG := Lib.hid (Hgg.out.kept hb8); obtain ⟨p0, p1, p2, p3, p4⟩ := HFG.out.cs; have z0 := HFG.out.fz 0; have z1 := HFG.out.fz 1; have z2 := HFG.out.fz 2; have z3 := HFG.out.fz 3; have z4 := HFG.out.fz 4; have Hgf := Lib.hid (Hgf.out.kept hb8); have Hgk := Lib.hid (Hgk.out.kept hb8); have HB := Lib.hid (HB.out.trans (hb8.mono HB.out.size)); clear hb8)
                    clear x0 x1 x2 d0 d1 d2 d3 d4 v0 v1 p0 p1 p2 p3 p4 z0 z1 z2 z3 z4 Hgx Hgg
                    have Hgf := Lib.hid (((((Hgf.out.other (p := ⟨gg, 0, none⟩) (.int .i64 2) HGN.out.2.1).other (p := ⟨gg, 1, none⟩) (.int .i64 k8) HGN.out.2.1).other (p := ⟨gg, 2, none⟩) (.int .i64 b8) HGN.out.2.1).other (p := ⟨gg, 3, none⟩) (.int .i64 t8) HGN.out.2.1).other (p := ⟨gg, 4, none⟩) (.int .i64 u8) HGN.out.2.1)
                    have Hgk := Lib.hid (((((Hgk.out.other ⟨gg, 0, none⟩ (.int .i64 2) HGN.out.1.symm).other ⟨gg, 1, none⟩ (.int .i64 k8) HGN.out.1.symm).other ⟨gg, 2, none⟩ (.int .i64 b8) HGN.out.1.symm).other ⟨gg, 3, none⟩ (.int .i64 t8) HGN.out.1.symm).other ⟨gg, 4, none⟩ (.int .i64 u8) HGN.out.1.symm)
                    have Hgg := Lib.hid (HFG.out.fill 2 k8 b8 t8 u8)
                    have HB := Lib.hid (bel5 HB.out HGN.out.2.2 (.int .i64 2) (.int .i64 k8) (.int .i64 b8) (.int .i64 t8) (.int .i64 u8))
                    generalize ((((w8.setCell ⟨gg, 0, none⟩ (.int .i64 2)).setCell ⟨gg, 1, none⟩ (.int .i64 k8)).setCell ⟨gg, 2, none⟩ (.int .i64 b8)).setCell ⟨gg, 3, none⟩ (.int .i64 t8)).setCell ⟨gg, 4, none⟩ (.int .i64 u8) = W8 at *
                    have Hgx := HB
                    obtain ⟨g0, g1, g2, g3, g4⟩ := Hgg.out.cs
                    have hgd := Ft.good_iff.1 HGJ.out.good
                    have hak : k8 = most := HGJ.out.ack
                    have h1 : ¬ b8 < b := by have := HGB.out; omega
                    have h2 : ¬ k8 < b8 := by have := hgd.2.2.2.2.2.1; simp only at this; omega
                    have h3 : (k8 != most) = false := by rw [hak]; simp
                    clear hgd
                    have HAK := Lib.hid hak
                    clear hak
                    go_upto_region 21 with (fail)
                    clear h1 h2 h3
                    by_cases hri : b < b8
                    · have HCM := Lib.hid (hit_came (HGC.out hri))
                      have hj1 : IntKind.i64.wrap ((j : Int) + 1) = ((j + 1 : Nat) : Int) := by rw [IntKind.wrap_i64]; have := HMM.out; omega
                      have hj2 : ((j + 1 : Nat) : Int) ≤ (cap : Int) := by omega
                      have hj3 : (0 : Int) ≤ ((j + 1 : Nat) : Int) := by omega
                      obtain ⟨J, hJ⟩ : ∃ z : Nat, j + 1 = z := ⟨_, rfl⟩
                      have hjJ : (j : Int) + 1 = (J : Int) := by omega
                      rw [hJ] at hj1 hj2 hj3
                      have HJ := Lib.hid hJ
                      clear hJ
                      go_upto_region 24 with (fail)
                      clear hri hj1 hj3 g0 g1 g2 g3 g4
                      go_loopw [15, 137] (fun v i wq => ∃ (p : Nat), p ≤ J ∧ i = .int .i64 (p : Int) ∧ v = .bool (hitN l b8 c9 p) ∧ Fb wq gf 23 2 k b t u ∧ Fb wq gg 23 2 k8 b8 t8 u8 ∧ Pair wq gk 25 c9 1000 ∧ Below w.heap.size w wq) (fun _ i _ => J - (intOf i).toNat)
                      case atStart => exact ⟨0, by omega, rfl, rfl, Hgf.out, Hgg.out, Hgk.out, HB.out⟩
                      case round =>
                        clear Hgf Hgg Hgk HB Hgx
                        obtain ⟨p, hp, rfl, rfl, hgf, hgg, hgk, hB⟩ := hrel
                        have Hgf := Lib.hid hgf
                        have Hgg := Lib.hid hgg
                        have Hgk := Lib.hid hgk
                        have HB := Lib.hid hB
                        clear hgf hgg hgk hB
                        by_cases hpl : p < J
                        · have hpi : (p : Int) < (J : Int) := by omega
                          have hpc : (p : Int) < (cap : Int) := by omega
                          obtain ⟨bl2, off2, eab, hat⟩ := HL.out.at (k := p) (by have := HJ.out; omega)
                          injection eab with eab
                          injection eab with eab1 eab2
                          subst eab1 eab2
                          obtain ⟨x, hx⟩ : ∃ x, l.getD p Tl.zero = x := ⟨_, rfl⟩
                          rw [hx] at hat
                          have hst : hitN l b8 c9 (p + 1) = (hitN l b8 c9 p || ((x.a == b8) && (decide (0 ≤ x.o) && decide (x.o ≤ c9)))) := by rw [← hx]; rfl
                          obtain ⟨xa, xo, xc⟩ := x
                          obtain ⟨c0, c1, c2⟩ := hat wr HB.out
                          simp only at c0 c1 c2 hst
                          have HST := Lib.hid hst
                          clear hat hx hst
                          go_upto_region 26 with (fail)
                          clear c0 c1 c2
                          have hsz := HB.out.size
                          have hx := Tb3.new wr xa xo xc
                          have hbx := alloc_below wr (.cells #[.int .i64 xa, .int .i64 xo, .int .i64 xc] 76)
                          have Hgf := Lib.hid (Hgf.out.kept hbx)
                          have Hgg := Lib.hid (Hgg.out.kept hbx)
                          have Hgk := Lib.hid (Hgk.out.kept hbx)
                          have HB := Lib.hid (HB.out.trans (hbx.mono HB.out.size))
                          obtain ⟨gy, hg⟩ : ∃ q, wr.heap.size = q := ⟨_, rfl⟩
                          rw [hg] at hx hsz  ⊢
                          have Hgy := Lib.hid hx
                          clear hx hbx hg hsz 
                          generalize wr.alloc (.cells #[.int .i64 xa, .int .i64 xo, .int .i64 xc] 76) = W9 at *
                          obtain ⟨y0, y1, y2⟩ := Hgy.out.cs
                          obtain ⟨g0, g1, g2, g3, g4⟩ := Hgg.out.cs
                          have v0 := Hgk.out.c0
                          have v1 := Hgk.out.c1
                          obtain ⟨R, hR⟩ : ∃ z, hitN l b8 c9 p = z := ⟨_, rfl⟩
                          rw [hR] at HST ⊢
                          clear hR
                          cases R with
                          | true =>
                            go_quiet (fail)
                            clear y0 y1 y2 g0 g1 g2 g3 g4 v0 v1
                            (try go_wp2)
                            go_roundw
                            case rel => exact ⟨p + 1, by omega, by go_num, by rw [HST.out]; rfl, Hgf.out.kept (drewN_below (Below.refl _ W9) nq), Hgg.out.kept (drewN_below (Below.refl _ W9) nq), Hgk.out.kept (drewN_below (Below.refl _ W9) nq), drewN_below HB.out nq⟩
                            case measure => simp [intOf]; omega
                          | false =>
                            cases h1 : (xa == b8) with
                            | false =>
                              have HE := Lib.hid h1
                              go_quiet (fail)
                              clear y0 y1 y2 g0 g1 g2 g3 g4 v0 v1 h1
                              (try go_wp2)
                              go_roundw
                              case rel => exact ⟨p + 1, by omega, by go_num, by rw [HST.out, HE.out]; rfl, Hgf.out.kept (drewN_below (Below.refl _ W9) nq), Hgg.out.kept (drewN_below (Below.refl _ W9) nq), Hgk.out.kept (drewN_below (Below.refl _ W9) nq), drewN_below HB.out nq⟩
                              case measure => simp [intOf]; omega
                            | true =>
                              have HE := Lib.hid h1
                              by_cases h2 : 0 ≤ xo
                              · have hd2 : decide (0 ≤ xo) = true := decide_eq_true h2
                                have HD2 := Lib.hid hd2
                                by_cases h3 : xo ≤ c9
                                · have hd3 : decide (xo ≤ c9) = true := decide_eq_true h3
                                  have HD3 := Lib.hid hd3
                                  go_quiet (fail)
                                  clear y0 y1 y2 g0 g1 g2 g3 g4 v0 v1 h1 h2 h3 hd2 hd3
                                  (try go_wp2)
                                  go_roundw
                                  case rel => exact ⟨p + 1, by omega, by go_num, by rw [HST.out, HE.out, HD2.out, HD3.out]; rfl, Hgf.out.kept (drewN_below (Below.refl _ W9) nq), Hgg.out.kept (drewN_below (Below.refl _ W9) nq), Hgk.out.kept (drewN_below (Below.refl _ W9) nq), drewN_below HB.out nq⟩
                                  case measure => simp [intOf]; omega
                                · have hd3 : decide (xo ≤ c9) = false := decide_eq_false h3
                                  have HD3 := Lib.hid hd3
                                  go_quiet (fail)
                                  clear y0 y1 y2 g0 g1 g2 g3 g4 v0 v1 h1 h2 h3 hd2 hd3
                                  (try go_wp2)
                                  go_roundw
                                  case rel => exact ⟨p + 1, by omega, by go_num, by rw [HST.out, HE.out, HD2.out, HD3.out]; rfl, Hgf.out.kept (drewN_below (Below.refl _ W9) nq), Hgg.out.kept (drewN_below (Below.refl _ W9) nq), Hgk.out.kept (drewN_below (Below.refl _ W9) nq), drewN_below HB.out nq⟩
                                  case measure => simp [intOf]; omega
                              · have hd2 : decide (0 ≤ xo) = false := decide_eq_false h2
                                have HD2 := Lib.hid hd2
                                go_quiet (fail)
                                clear y0 y1 y2 g0 g1 g2 g3 g4 v0 v1 h1 h2 hd2
                                (try go_wp2)
                                go_roundw
                                case rel => exact ⟨p + 1, by omega, by go_num, by rw [HST.out, HE.out, HD2.out]; rfl, Hgf.out.kept (drewN_below (Below.refl _ W9) nq), Hgg.out.kept (drewN_below (Below.refl _ W9) nq), Hgk.out.kept (drewN_below (Below.refl _ W9) nq), drewN_below HB.out nq⟩
                                case measure => simp [intOf]; omega
                        · obtain rfl : p = J := by omega
                          have hh : hitN l b8 c9 p = true := by rw [← HJ.out]; exact HCM.out
                          rw [hh]
                          clear hh
                          go_upto_region 30 with (fail)
                          obtain ⟨g0, g1, g2, g3, g4⟩ := Hgg.out.cs
                          obtain ⟨d0, d1, d2, d3, d4⟩ := Hgf.out.cs
                          have z0 := Hgf.out.fz 0
                          have z1 := Hgf.out.fz 1
                          have z2 := Hgf.out.fz 2
                          have z3 := Hgf.out.fz 3
                          have z4 := Hgf.out.fz 4
                          (try go_wp2)
                          go_roundw
                          case rel => exact ⟨j + 1, k8, b8, t8, u8, most, c9, by omega, by go_num, rfl, HGJ.out, HC9.out.1, HC9.out.2.1, Hgf.out.fill 2 k8 b8 t8 u8, ((((Hgk.out.other _ _ HNE.out.symm).other _ _ HNE.out.symm).other _ _ HNE.out.symm).other _ _ HNE.out.symm).other _ _ HNE.out.symm, bel5 HB.out HGK.out.2 _ _ _ _ _⟩
                          case measure => simp [intOf]; omega
                    · have h4 : ¬ b < b8 := hri
                      clear HGC
                      clear h4
                      go_upto_region 30 with (fail)
                      obtain ⟨g0, g1, g2, g3, g4⟩ := Hgg.out.cs
                      obtain ⟨d0, d1, d2, d3, d4⟩ := Hgf.out.cs
                      have z0 := Hgf.out.fz 0
                      have z1 := Hgf.out.fz 1
                      have z2 := Hgf.out.fz 2
                      have z3 := Hgf.out.fz 3
                      have z4 := Hgf.out.fz 4
                      (try go_wp2)
                      go_roundw
                      case rel => exact ⟨j + 1, k8, b8, t8, u8, most, c9, by omega, by go_num, rfl, HGJ.out, HC9.out.1, HC9.out.2.1, Hgf.out.fill 2 k8 b8 t8 u8, ((((Hgk.out.other _ _ HNE.out.symm).other _ _ HNE.out.symm).other _ _ HNE.out.symm).other _ _ HNE.out.symm).other _ _ HNE.out.symm, bel5 HB.out HGK.out.2 _ _ _ _ _⟩
                      case measure => simp [intOf]; omega
                · go_upto_region 17 with (fail)
                  clear b1 b2 b3
                  go_upto_region 19 with (go_at_call 11; (with_reducible refine (HSE.out _).mono ?_); rintro e8 w8 ⟨rfl, hb8⟩; have HFG := Lib.hid (Hgg.out.kept hb8); obtain ⟨p0, p1, p2, p3, p4⟩ := HFG.out.cs; have z0 := HFG.out.fz 0; have z1 := HFG.out.fz 1; have z2 := HFG.out.fz 2; have z3 := HFG.out.fz 3; have z4 := HFG.out.fz 4; have Hgf := Lib.hid (Hgf.out.kept hb8); have Hgk := Lib.hid (Hgk.out.kept hb8); have HB := Lib.hid (HB.out.trans (hb8.mono HB.out.size)); clear hb8)
                  clear x0 x1 x2 d0 d1 d2 d3 d4 v0 v1 p0 p1 p2 p3 p4 z0 z1 z2 z3 z4 Hgx Hgg
                  have Hgf := Lib.hid (((((Hgf.out.other (p := ⟨gg, 0, none⟩) (.int .i64 2) HGN.out.2.1).other (p := ⟨gg, 1, none⟩) (.int .i64 k8) HGN.out.2.1).other (p := ⟨gg, 2, none⟩) (.int .i64 b8) HGN.out.2.1).other (p := ⟨gg, 3, none⟩) (.int .i64 t8) HGN.out.2.1).other (p := ⟨gg, 4, none⟩) (.int .i64 u8) HGN.out.2.1)
                  have Hgk := Lib.hid (((((Hgk.out.other ⟨gg, 0, none⟩ (.int .i64 2) HGN.out.1.symm).other ⟨gg, 1, none⟩ (.int .i64 k8) HGN.out.1.symm).other ⟨gg, 2, none⟩ (.int .i64 b8) HGN.out.1.symm).other ⟨gg, 3, none⟩ (.int .i64 t8) HGN.out.1.symm).other ⟨gg, 4, none⟩ (.int .i64 u8) HGN.out.1.symm)
                  have Hgg := Lib.hid (HFG.out.fill 2 k8 b8 t8 u8)
                  have HB := Lib.hid (bel5 HB.out HGN.out.2.2 (.int .i64 2) (.int .i64 k8) (.int .i64 b8) (.int .i64 t8) (.int .i64 u8))
                  generalize ((((w8.setCell ⟨gg, 0, none⟩ (.int .i64 2)).setCell ⟨gg, 1, none⟩ (.int .i64 k8)).setCell ⟨gg, 2, none⟩ (.int .i64 b8)).setCell ⟨gg, 3, none⟩ (.int .i64 t8)).setCell ⟨gg, 4, none⟩ (.int .i64 u8) = W8 at *
                  have Hgx := HB
                  obtain ⟨g0, g1, g2, g3, g4⟩ := Hgg.out.cs
                  have hgd := Ft.good_iff.1 HGJ.out.good
                  have hak : k8 = most := HGJ.out.ack
                  have h1 : ¬ b8 < b := by have := HGB.out; omega
                  have h2 : ¬ k8 < b8 := by have := hgd.2.2.2.2.2.1; simp only at this; omega
                  have h3 : (k8 != most) = false := by rw [hak]; simp
                  clear hgd
                  have HAK := Lib.hid hak
                  clear hak
                  go_upto_region 21 with (fail)
                  clear h1 h2 h3
                  by_cases hri : b < b8
                  · have HCM := Lib.hid (hit_came (HGC.out hri))
                    have hj1 : IntKind.i64.wrap ((j : Int) + 1) = ((j + 1 : Nat) : Int) := by rw [IntKind.wrap_i64]; have := HMM.out; omega
                    have hj2 : ((j + 1 : Nat) : Int) ≤ (cap : Int) := by omega
                    have hj3 : (0 : Int) ≤ ((j + 1 : Nat) : Int) := by omega
                    obtain ⟨J, hJ⟩ : ∃ z : Nat, j + 1 = z := ⟨_, rfl⟩
                    have hjJ : (j : Int) + 1 = (J : Int) := by omega
                    rw [hJ] at hj1 hj2 hj3
                    have HJ := Lib.hid hJ
                    clear hJ
                    go_upto_region 24 with (fail)
                    clear hri hj1 hj3 g0 g1 g2 g3 g4
                    go_loopw [15, 137] (fun v i wq => ∃ (p : Nat), p ≤ J ∧ i = .int .i64 (p : Int) ∧ v = .bool (hitN l b8 c9 p) ∧ Fb wq gf 23 2 k b t u ∧ Fb wq gg 23 2 k8 b8 t8 u8 ∧ Pair wq gk 25 c9 1000 ∧ Below w.heap.size w wq) (fun _ i _ => J - (intOf i).toNat)
                    case atStart => exact ⟨0, by omega, rfl, rfl, Hgf.out, Hgg.out, Hgk.out, HB.out⟩
                    case round =>
                      clear Hgf Hgg Hgk HB Hgx
                      obtain ⟨p, hp, rfl, rfl, hgf, hgg, hgk, hB⟩ := hrel
                      have Hgf := Lib.hid hgf
                      have Hgg := Lib.hid hgg
                      have Hgk := Lib.hid hgk
                      have HB := Lib.hid hB
                      clear hgf hgg hgk hB
                      by_cases hpl : p < J
                      · have hpi : (p : Int) < (J : Int) := by omega
                        have hpc : (p : Int) < (cap : Int) := by omega
                        obtain ⟨bl2, off2, eab, hat⟩ := HL.out.at (k := p) (by have := HJ.out; omega)
                        injection eab with eab
                        injection eab with eab1 eab2
                        subst eab1 eab2
                        obtain ⟨x, hx⟩ : ∃ x, l.getD p Tl.zero = x := ⟨_, rfl⟩
                        rw [hx] at hat
                        have hst : hitN l b8 c9 (p + 1) = (hitN l b8 c9 p || ((x.a == b8) && (decide (0 ≤ x.o) && decide (x.o ≤ c9)))) := by rw [← hx]; rfl
                        obtain ⟨xa, xo, xc⟩ := x
                        obtain ⟨c0, c1, c2⟩ := hat wr HB.out
                        simp only at c0 c1 c2 hst
                        have HST := Lib.hid hst
                        clear hat hx hst
                        go_upto_region 26 with (fail)
                        clear c0 c1 c2
                        have hsz := HB.out.size
                        have hx := Tb3.new wr xa xo xc
                        have hbx := alloc_below wr (.cells #[.int .i64 xa, .int .i64 xo, .int .i64 xc] 76)
                        have Hgf := Lib.hid (Hgf.out.kept hbx)
                        have Hgg := Lib.hid (Hgg.out.kept hbx)
                        have Hgk := Lib.hid (Hgk.out.kept hbx)
                        have HB := Lib.hid (HB.out.trans (hbx.mono HB.out.size))
                        obtain ⟨gy, hg⟩ : ∃ q, wr.heap.size = q := ⟨_, rfl⟩
                        rw [hg] at hx hsz  ⊢
                        have Hgy := Lib.hid hx
                        clear hx hbx hg hsz 
                        generalize wr.alloc (.cells #[.int .i64 xa, .int .i64 xo, .int .i64 xc] 76) = W9 at *
                        obtain ⟨y0, y1, y2⟩ := Hgy.out.cs
                        obtain ⟨g0, g1, g2, g3, g4⟩ := Hgg.out.cs
                        have v0 := Hgk.out.c0
                        have v1 := Hgk.out.c1
                        obtain ⟨R, hR⟩ : ∃ z, hitN l b8 c9 p = z := ⟨_, rfl⟩
                        rw [hR] at HST ⊢
                        clear hR
                        cases R with
                        | true =>
                          go_quiet (fail)
                          clear y0 y1 y2 g0 g1 g2 g3 g4 v0 v1
                          (try go_wp2)
                          go_roundw
                          case rel => exact ⟨p + 1, by omega, by go_num, by rw [HST.out]; rfl, Hgf.out.kept (drewN_below (Below.refl _ W9) nq), Hgg.out.kept (drewN_below (Below.refl _ W9) nq), Hgk.out.kept (drewN_below (Below.refl _ W9) nq), drewN_below HB.out nq⟩
                          case measure => simp [intOf]; omega
                        | false =>
                          cases h1 : (xa == b8) with
                          | false =>
                            have HE := Lib.hid h1
                            go_quiet (fail)
                            clear y0 y1 y2 g0 g1 g2 g3 g4 v0 v1 h1
                            (try go_wp2)
                            go_roundw
                            case rel => exact ⟨p + 1, by omega, by go_num, by rw [HST.out, HE.out]; rfl, Hgf.out.kept (drewN_below (Below.refl _ W9) nq), Hgg.out.kept (drewN_below (Below.refl _ W9) nq), Hgk.out.kept (drewN_below (Below.refl _ W9) nq), drewN_below HB.out nq⟩
                            case measure => simp [intOf]; omega
                          | true =>
                            have HE := Lib.hid h1
                            by_cases h2 : 0 ≤ xo
                            · have hd2 : decide (0 ≤ xo) = true := decide_eq_true h2
                              have HD2 := Lib.hid hd2
                              by_cases h3 : xo ≤ c9
                              · have hd3 : decide (xo ≤ c9) = true := decide_eq_true h3
                                have HD3 := Lib.hid hd3
                                go_quiet (fail)
                                clear y0 y1 y2 g0 g1 g2 g3 g4 v0 v1 h1 h2 h3 hd2 hd3
                                (try go_wp2)
                                go_roundw
                                case rel => exact ⟨p + 1, by omega, by go_num, by rw [HST.out, HE.out, HD2.out, HD3.out]; rfl, Hgf.out.kept (drewN_below (Below.refl _ W9) nq), Hgg.out.kept (drewN_below (Below.refl _ W9) nq), Hgk.out.kept (drewN_below (Below.refl _ W9) nq), drewN_below HB.out nq⟩
                                case measure => simp [intOf]; omega
                              · have hd3 : decide (xo ≤ c9) = false := decide_eq_false h3
                                have HD3 := Lib.hid hd3
                                go_quiet (fail)
                                clear y0 y1 y2 g0 g1 g2 g3 g4 v0 v1 h1 h2 h3 hd2 hd3
                                (try go_wp2)
                                go_roundw
                                case rel => exact ⟨p + 1, by omega, by go_num, by rw [HST.out, HE.out, HD2.out, HD3.out]; rfl, Hgf.out.kept (drewN_below (Below.refl _ W9) nq), Hgg.out.kept (drewN_below (Below.refl _ W9) nq), Hgk.out.kept (drewN_below (Below.refl _ W9) nq), drewN_below HB.out nq⟩
                                case measure => simp [intOf]; omega
                            · have hd2 : decide (0 ≤ xo) = false := decide_eq_false h2
                              have HD2 := Lib.hid hd2
                              go_quiet (fail)
                              clear y0 y1 y2 g0 g1 g2 g3 g4 v0 v1 h1 h2 hd2
                              (try go_wp2)
                              go_roundw
                              case rel => exact ⟨p + 1, by omega, by go_num, by rw [HST.out, HE.out, HD2.out]; rfl, Hgf.out.kept (drewN_below (Below.refl _ W9) nq), Hgg.out.kept (drewN_below (Below.refl _ W9) nq), Hgk.out.kept (drewN_below (Below.refl _ W9) nq), drewN_below HB.out nq⟩
                              case measure => simp [intOf]; omega
                      · obtain rfl : p = J := by omega
                        have hh : hitN l b8 c9 p = true := by rw [← HJ.out]; exact HCM.out
                        rw [hh]
                        clear hh
                        go_upto_region 30 with (fail)
                        obtain ⟨g0, g1, g2, g3, g4⟩ := Hgg.out.cs
                        obtain ⟨d0, d1, d2, d3, d4⟩ := Hgf.out.cs
                        have z0 := Hgf.out.fz 0
                        have z1 := Hgf.out.fz 1
                        have z2 := Hgf.out.fz 2
                        have z3 := Hgf.out.fz 3
                        have z4 := Hgf.out.fz 4
                        (try go_wp2)
                        go_roundw
                        case rel => exact ⟨j + 1, k8, b8, t8, u8, most, c9, by omega, by go_num, rfl, HGJ.out, HC9.out.1, HC9.out.2.1, Hgf.out.fill 2 k8 b8 t8 u8, ((((Hgk.out.other _ _ HNE.out.symm).other _ _ HNE.out.symm).other _ _ HNE.out.symm).other _ _ HNE.out.symm).other _ _ HNE.out.symm, bel5 HB.out HGK.out.2 _ _ _ _ _⟩
                        case measure => simp [intOf]; omega
                  · have h4 : ¬ b < b8 := hri
                    clear HGC
                    clear h4
                    go_upto_region 30 with (fail)
                    obtain ⟨g0, g1, g2, g3, g4⟩ := Hgg.out.cs
                    obtain ⟨d0, d1, d2, d3, d4⟩ := Hgf.out.cs
                    have z0 := Hgf.out.fz 0
                    have z1 := Hgf.out.fz 1
                    have z2 := Hgf.out.fz 2
                    have z3 := Hgf.out.fz 3
                    have z4 := Hgf.out.fz 4
                    (try go_wp2)
                    go_roundw
                    case rel => exact ⟨j + 1, k8, b8, t8, u8, most, c9, by omega, by go_num, rfl, HGJ.out, HC9.out.1, HC9.out.2.1, Hgf.out.fill 2 k8 b8 t8 u8, ((((Hgk.out.other _ _ HNE.out.symm).other _ _ HNE.out.symm).other _ _ HNE.out.symm).other _ _ HNE.out.symm).other _ _ HNE.out.symm, bel5 HB.out HGK.out.2 _ _ _ _ _⟩
                    case measure => simp [intOf]; omega
              · go_upto_region 17 with (fail)
                clear b1 b2
                go_upto_region 19 with (go_at_call 11; (with_reducible refine (HSE.out _).mono ?_); rintro e8 w8 ⟨rfl, hb8⟩; have HFG := Lib.hid (Hgg.out.kept hb8); obtain ⟨p0, p1, p2, p3, p4⟩ := HFG.out.cs; have z0 := HFG.out.fz 0; have z1 := HFG.out.fz 1; have z2 := HFG.out.fz 2; have z3 := HFG.out.fz 3; have z4 := HFG.out.fz 4; have Hgf := Lib.hid (Hgf.out.kept hb8); have Hgk := Lib.hid (Hgk.out.kept hb8); have HB := Lib.hid (HB.out.trans (hb8.mono HB.out.size)); clear hb8)
                clear x0 x1 x2 d0 d1 d2 d3 d4 v0 v1 p0 p1 p2 p3 p4 z0 z1 z2 z3 z4 Hgx Hgg
                have Hgf := Lib.hid (((((Hgf.out.other (p := ⟨gg, 0, none⟩) (.int .i64 2) HGN.out.2.1).other (p := ⟨gg, 1, none⟩) (.int .i64 k8) HGN.out.2.1).other (p := ⟨gg, 2, none⟩) (.int .i64 b8) HGN.out.2.1).other (p := ⟨gg, 3, none⟩) (.int .i64 t8) HGN.out.2.1).other (p := ⟨gg, 4, none⟩) (.int .i64 u8) HGN.out.2.1)
                have Hgk := Lib.hid (((((Hgk.out.other ⟨gg, 0, none⟩ (.int .i64 2) HGN.out.1.symm).other ⟨gg, 1, none⟩ (.int .i64 k8) HGN.out.1.symm).other ⟨gg, 2, none⟩ (.int .i64 b8) HGN.out.1.symm).other ⟨gg, 3, none⟩ (.int .i64 t8) HGN.out.1.symm).other ⟨gg, 4, none⟩ (.int .i64 u8) HGN.out.1.symm)
                have Hgg := Lib.hid (HFG.out.fill 2 k8 b8 t8 u8)
                have HB := Lib.hid (bel5 HB.out HGN.out.2.2 (.int .i64 2) (.int .i64 k8) (.int .i64 b8) (.int .i64 t8) (.int .i64 u8))
                generalize ((((w8.setCell ⟨gg, 0, none⟩ (.int .i64 2)).setCell ⟨gg, 1, none⟩ (.int .i64 k8)).setCell ⟨gg, 2, none⟩ (.int .i64 b8)).setCell ⟨gg, 3, none⟩ (.int .i64 t8)).setCell ⟨gg, 4, none⟩ (.int .i64 u8) = W8 at *
                have Hgx := HB
                obtain ⟨g0, g1, g2, g3, g4⟩ := Hgg.out.cs
                have hgd := Ft.good_iff.1 HGJ.out.good
                have hak : k8 = most := HGJ.out.ack
                have h1 : ¬ b8 < b := by have := HGB.out; omega
                have h2 : ¬ k8 < b8 := by have := hgd.2.2.2.2.2.1; simp only at this; omega
                have h3 : (k8 != most) = false := by rw [hak]; simp
                clear hgd
                have HAK := Lib.hid hak
                clear hak
                go_upto_region 21 with (fail)
                clear h1 h2 h3
                by_cases hri : b < b8
                · have HCM := Lib.hid (hit_came (HGC.out hri))
                  have hj1 : IntKind.i64.wrap ((j : Int) + 1) = ((j + 1 : Nat) : Int) := by rw [IntKind.wrap_i64]; have := HMM.out; omega
                  have hj2 : ((j + 1 : Nat) : Int) ≤ (cap : Int) := by omega
                  have hj3 : (0 : Int) ≤ ((j + 1 : Nat) : Int) := by omega
                  obtain ⟨J, hJ⟩ : ∃ z : Nat, j + 1 = z := ⟨_, rfl⟩
                  have hjJ : (j : Int) + 1 = (J : Int) := by omega
                  rw [hJ] at hj1 hj2 hj3
                  have HJ := Lib.hid hJ
                  clear hJ
                  go_upto_region 24 with (fail)
                  clear hri hj1 hj3 g0 g1 g2 g3 g4
                  go_loopw [15, 137] (fun v i wq => ∃ (p : Nat), p ≤ J ∧ i = .int .i64 (p : Int) ∧ v = .bool (hitN l b8 c9 p) ∧ Fb wq gf 23 2 k b t u ∧ Fb wq gg 23 2 k8 b8 t8 u8 ∧ Pair wq gk 25 c9 1000 ∧ Below w.heap.size w wq) (fun _ i _ => J - (intOf i).toNat)
                  case atStart => exact ⟨0, by omega, rfl, rfl, Hgf.out, Hgg.out, Hgk.out, HB.out⟩
                  case round =>
                    clear Hgf Hgg Hgk HB Hgx
                    obtain ⟨p, hp, rfl, rfl, hgf, hgg, hgk, hB⟩ := hrel
                    have Hgf := Lib.hid hgf
                    have Hgg := Lib.hid hgg
                    have Hgk := Lib.hid hgk
                    have HB := Lib.hid hB
                    clear hgf hgg hgk hB
                    by_cases hpl : p < J
                    · have hpi : (p : Int) < (J : Int) := by omega
                      have hpc : (p : Int) < (cap : Int) := by omega
                      obtain ⟨bl2, off2, eab, hat⟩ := HL.out.at (k := p) (by have := HJ.out; omega)
                      injection eab with eab
                      injection eab with eab1 eab2
                      subst eab1 eab2
                      obtain ⟨x, hx⟩ : ∃ x, l.getD p Tl.zero = x := ⟨_, rfl⟩
                      rw [hx] at hat
                      have hst : hitN l b8 c9 (p + 1) = (hitN l b8 c9 p || ((x.a == b8) && (decide (0 ≤ x.o) && decide (x.o ≤ c9)))) := by rw [← hx]; rfl
                      obtain ⟨xa, xo, xc⟩ := x
                      obtain ⟨c0, c1, c2⟩ := hat wr HB.out
                      simp only at c0 c1 c2 hst
                      have HST := Lib.hid hst
                      clear hat hx hst
                      go_upto_region 26 with (fail)
                      clear c0 c1 c2
                      have hsz := HB.out.size
                      have hx := Tb3.new wr xa xo xc
                      have hbx := alloc_below wr (.cells #[.int .i64 xa, .int .i64 xo, .int .i64 xc] 76)
                      have Hgf := Lib.hid (Hgf.out.kept hbx)
                      have Hgg := Lib.hid (Hgg.out.kept hbx)
                      have Hgk := Lib.hid (Hgk.out.kept hbx)
                      have HB := Lib.hid (HB.out.trans (hbx.mono HB.out.size))
                      obtain ⟨gy, hg⟩ : ∃ q, wr.heap.size = q := ⟨_, rfl⟩
                      rw [hg] at hx hsz  ⊢
                      have Hgy := Lib.hid hx
                      clear hx hbx hg hsz 
                      generalize wr.alloc (.cells #[.int .i64 xa, .int .i64 xo, .int .i64 xc] 76) = W9 at *
                      obtain ⟨y0, y1, y2⟩ := Hgy.out.cs
                      obtain ⟨g0, g1, g2, g3, g4⟩ := Hgg.out.cs
                      have v0 := Hgk.out.c0
                      have v1 := Hgk.out.c1
                      obtain ⟨R, hR⟩ : ∃ z, hitN l b8 c9 p = z := ⟨_, rfl⟩
                      rw [hR] at HST ⊢
                      clear hR
                      cases R with
                      | true =>
                        go_quiet (fail)
                        clear y0 y1 y2 g0 g1 g2 g3 g4 v0 v1
                        (try go_wp2)
                        go_roundw
                        case rel => exact ⟨p + 1, by omega, by go_num, by rw [HST.out]; rfl, Hgf.out.kept (drewN_below (Below.refl _ W9) nq), Hgg.out.kept (drewN_below (Below.refl _ W9) nq), Hgk.out.kept (drewN_below (Below.refl _ W9) nq), drewN_below HB.out nq⟩
                        case measure => simp [intOf]; omega
                      | false =>
                        cases h1 : (xa == b8) with
                        | false =>
                          have HE := Lib.hid h1
                          go_quiet (fail)
                          clear y0 y1 y2 g0 g1 g2 g3 g4 v0 v1 h1
                          (try go_wp2)
                          go_roundw
                          case rel => exact ⟨p + 1, by omega, by go_num, by rw [HST.out, HE.out]; rfl, Hgf.out.kept (drewN_below (Below.refl _ W9) nq), Hgg.out.kept (drewN_below (Below.refl _ W9) nq), Hgk.out.kept (drewN_below (Below.refl _ W9) nq), drewN_below HB.out nq⟩
                          case measure => simp [intOf]; omega
                        | true =>
                          have HE := Lib.hid h1
                          by_cases h2 : 0 ≤ xo
                          · have hd2 : decide (0 ≤ xo) = true := decide_eq_true h2
                            have HD2 := Lib.hid hd2
                            by_cases h3 : xo ≤ c9
                            · have hd3 : decide (xo ≤ c9) = true := decide_eq_true h3
                              have HD3 := Lib.hid hd3
                              go_quiet (fail)
                              clear y0 y1 y2 g0 g1 g2 g3 g4 v0 v1 h1 h2 h3 hd2 hd3
                              (try go_wp2)
                              go_roundw
                              case rel => exact ⟨p + 1, by omega, by go_num, by rw [HST.out, HE.out, HD2.out, HD3.out]; rfl, Hgf.out.kept (drewN_below (Below.refl _ W9) nq), Hgg.out.kept (drewN_below (Below.refl _ W9) nq), Hgk.out.kept (drewN_below (Below.refl _ W9) nq), drewN_below HB.out nq⟩
                              case measure => simp [intOf]; omega
                            · have hd3 : decide (xo ≤ c9) = false := decide_eq_false h3
                              have HD3 := Lib.hid hd3
                              go_quiet (fail)
                              clear y0 y1 y2 g0 g1 g2 g3 g4 v0 v1 h1 h2 h3 hd2 hd3
                              (try go_wp2)
                              go_roundw
                              case rel => exact ⟨p + 1, by omega, by go_num, by rw [HST.out, HE.out, HD2.out, HD3.out]; rfl, Hgf.out.kept (drewN_below (Below.refl _ W9) nq), Hgg.out.kept (drewN_below (Below.refl _ W9) nq), Hgk.out.kept (drewN_below (Below.refl _ W9) nq), drewN_below HB.out nq⟩
                              case measure => simp [intOf]; omega
                          · have hd2 : decide (0 ≤ xo) = false := decide_eq_false h2
                            have HD2 := Lib.hid hd2
                            go_quiet (fail)
                            clear y0 y1 y2 g0 g1 g2 g3 g4 v0 v1 h1 h2 hd2
                            (try go_wp2)
                            go_roundw
                            case rel => exact ⟨p + 1, by omega, by go_num, by rw [HST.out, HE.out, HD2.out]; rfl, Hgf.out.kept (drewN_below (Below.refl _ W9) nq), Hgg.out.kept (drewN_below (Below.refl _ W9) nq), Hgk.out.kept (drewN_below (Below.refl _ W9) nq), drewN_below HB.out nq⟩
                            case measure => simp [intOf]; omega
                    · obtain rfl : p = J := by omega
                      have hh : hitN l b8 c9 p = true := by rw [← HJ.out]; exact HCM.out
                      rw [hh]
                      clear hh
                      go_upto_region 30 with (fail)
                      obtain ⟨g0, g1, g2, g3, g4⟩ := Hgg.out.cs
                      obtain ⟨d0, d1, d2, d3, d4⟩ := Hgf.out.cs
                      have z0 := Hgf.out.fz 0
                      have z1 := Hgf.out.fz 1
                      have z2 := Hgf.out.fz 2
                      have z3 := Hgf.out.fz 3
                      have z4 := Hgf.out.fz 4
                      (try go_wp2)
                      go_roundw
                      case rel => exact ⟨j + 1, k8, b8, t8, u8, most, c9, by omega, by go_num, rfl, HGJ.out, HC9.out.1, HC9.out.2.1, Hgf.out.fill 2 k8 b8 t8 u8, ((((Hgk.out.other _ _ HNE.out.symm).other _ _ HNE.out.symm).other _ _ HNE.out.symm).other _ _ HNE.out.symm).other _ _ HNE.out.symm, bel5 HB.out HGK.out.2 _ _ _ _ _⟩
                      case measure => simp [intOf]; omega
                · have h4 : ¬ b < b8 := hri
                  clear HGC
                  clear h4
                  go_upto_region 30 with (fail)
                  obtain ⟨g0, g1, g2, g3, g4⟩ := Hgg.out.cs
                  obtain ⟨d0, d1, d2, d3, d4⟩ := Hgf.out.cs
                  have z0 := Hgf.out.fz 0
                  have z1 := Hgf.out.fz 1
                  have z2 := Hgf.out.fz 2
                  have z3 := Hgf.out.fz 3
                  have z4 := Hgf.out.fz 4
                  (try go_wp2)
                  go_roundw
                  case rel => exact ⟨j + 1, k8, b8, t8, u8, most, c9, by omega, by go_num, rfl, HGJ.out, HC9.out.1, HC9.out.2.1, Hgf.out.fill 2 k8 b8 t8 u8, ((((Hgk.out.other _ _ HNE.out.symm).other _ _ HNE.out.symm).other _ _ HNE.out.symm).other _ _ HNE.out.symm).other _ _ HNE.out.symm, bel5 HB.out HGK.out.2 _ _ _ _ _⟩
                  case measure => simp [intOf]; omega
            · go_upto_region 17 with (fail)
              clear b1
              go_upto_region 19 with (go_at_call 11; (with_reducible refine (HSE.out _).mono ?_); rintro e8 w8 ⟨rfl, hb8⟩; have HFG := Lib.hid (Hgg.out.kept hb8); obtain ⟨p0, p1, p2, p3, p4⟩ := HFG.out.cs; have z0 := HFG.out.fz 0; have z1 := HFG.out.fz 1; have z2 := HFG.out.fz 2; have z3 := HFG.out.fz 3; have z4 := HFG.out.fz 4; have Hgf := Lib.hid (Hgf.out.kept hb8); have Hgk := Lib.hid (Hgk.out.kept hb8); have HB := Lib.hid (HB.out.trans (hb8.mono HB.out.size)); clear hb8)
              clear x0 x1 x2 d0 d1 d2 d3 d4 v0 v1 p0 p1 p2 p3 p4 z0 z1 z2 z3 z4 Hgx Hgg
              have Hgf := Lib.hid (((((Hgf.out.other (p := ⟨gg, 0, none⟩) (.int .i64 2) HGN.out.2.1).other (p := ⟨gg, 1, none⟩) (.int .i64 k8) HGN.out.2.1).other (p := ⟨gg, 2, none⟩) (.int .i64 b8) HGN.out.2.1).other (p := ⟨gg, 3, none⟩) (.int .i64 t8) HGN.out.2.1).other (p := ⟨gg, 4, none⟩) (.int .i64 u8) HGN.out.2.1)
              have Hgk := Lib.hid (((((Hgk.out.other ⟨gg, 0, none⟩ (.int .i64 2) HGN.out.1.symm).other ⟨gg, 1, none⟩ (.int .i64 k8) HGN.out.1.symm).other ⟨gg, 2, none⟩ (.int .i64 b8) HGN.out.1.symm).other ⟨gg, 3, none⟩ (.int .i64 t8) HGN.out.1.symm).other ⟨gg, 4, none⟩ (.int .i64 u8) HGN.out.1.symm)
              have Hgg := Lib.hid (HFG.out.fill 2 k8 b8 t8 u8)
              have HB := Lib.hid (bel5 HB.out HGN.out.2.2 (.int .i64 2) (.int .i64 k8) (.int .i64 b8) (.int .i64 t8) (.int .i64 u8))
              generalize ((((w8.setCell ⟨gg, 0, none⟩ (.int .i64 2)).setCell ⟨gg, 1, none⟩ (.int .i64 k8)).setCell ⟨gg, 2, none⟩ (.int .i64 b8)).setCell ⟨gg, 3, none⟩ (.int .i64 t8)).setCell ⟨gg, 4, none⟩ (.int .i64 u8) = W8 at *
              have Hgx := HB
              obtain ⟨g0, g1, g2, g3, g4⟩ := Hgg.out.cs
              have hgd := Ft.good_iff.1 HGJ.out.good
              have hak : k8 = most := HGJ.out.ack
              have h1 : ¬ b8 < b := by have := HGB.out; omega
              have h2 : ¬ k8 < b8 := by have := hgd.2.2.2.2.2.1; simp only at this; omega
              have h3 : (k8 != most) = false := by rw [hak]; simp
              clear hgd
              have HAK := Lib.hid hak
              clear hak
              go_upto_region 21 with (fail)
              clear h1 h2 h3
              by_cases hri : b < b8
              · have HCM := Lib.hid (hit_came (HGC.out hri))
                have hj1 : IntKind.i64.wrap ((j : Int) + 1) = ((j + 1 : Nat) : Int) := by rw [IntKind.wrap_i64]; have := HMM.out; omega
                have hj2 : ((j + 1 : Nat) : Int) ≤ (cap : Int) := by omega
                have hj3 : (0 : Int) ≤ ((j + 1 : Nat) : Int) := by omega
                obtain ⟨J, hJ⟩ : ∃ z : Nat, j + 1 = z := ⟨_, rfl⟩
                have hjJ : (j : Int) + 1 = (J : Int) := by omega
                rw [hJ] at hj1 hj2 hj3
                have HJ := Lib.hid hJ
                clear hJ
                go_upto_region 24 with (fail)
                clear hri hj1 hj3 g0 g1 g2 g3 g4
                go_loopw [15, 137] (fun v i wq => ∃ (p : Nat), p ≤ J ∧ i = .int .i64 (p : Int) ∧ v = .bool (hitN l b8 c9 p) ∧ Fb wq gf 23 2 k b t u ∧ Fb wq gg 23 2 k8 b8 t8 u8 ∧ Pair wq gk 25 c9 1000 ∧ Below w.heap.size w wq) (fun _ i _ => J - (intOf i).toNat)
                case atStart => exact ⟨0, by omega, rfl, rfl, Hgf.out, Hgg.out, Hgk.out, HB.out⟩
                case round =>
                  clear Hgf Hgg Hgk HB Hgx
                  obtain ⟨p, hp, rfl, rfl, hgf, hgg, hgk, hB⟩ := hrel
                  have Hgf := Lib.hid hgf
                  have Hgg := Lib.hid hgg
                  have Hgk := Lib.hid hgk
                  have HB := Lib.hid hB
                  clear hgf hgg hgk hB
                  by_cases hpl : p < J
                  · have hpi : (p : Int) < (J : Int) := by omega
                    have hpc : (p : Int) < (cap : Int) := by omega
                    obtain ⟨bl2, off2, eab, hat⟩ := HL.out.at (k := p) (by have := HJ.out; omega)
                    injection eab with eab
                    injection eab with eab1 eab2
                    subst eab1 eab2
                    obtain ⟨x, hx⟩ : ∃ x, l.getD p Tl.zero = x := ⟨_, rfl⟩
                    rw [hx] at hat
                    have hst : hitN l b8 c9 (p + 1) = (hitN l b8 c9 p || ((x.a == b8) && (decide (0 ≤ x.o) && decide (x.o ≤ c9)))) := by rw [← hx]; rfl
                    obtain ⟨xa, xo, xc⟩ := x
                    obtain ⟨c0, c1, c2⟩ := hat wr HB.out
                    simp only at c0 c1 c2 hst
                    have HST := Lib.hid hst
                    clear hat hx hst
                    go_upto_region 26 with (fail)
                    clear c0 c1 c2
                    have hsz := HB.out.size
                    have hx := Tb3.new wr xa xo xc
                    have hbx := alloc_below wr (.cells #[.int .i64 xa, .int .i64 xo, .int .i64 xc] 76)
                    have Hgf := Lib.hid (Hgf.out.kept hbx)
                    have Hgg := Lib.hid (Hgg.out.kept hbx)
                    have Hgk := Lib.hid (Hgk.out.kept hbx)
                    have HB := Lib.hid (HB.out.trans (hbx.mono HB.out.size))
                    obtain ⟨gy, hg⟩ : ∃ q, wr.heap.size = q := ⟨_, rfl⟩
                    rw [hg] at hx hsz  ⊢
                    have Hgy := Lib.hid hx
                    clear hx hbx hg hsz 
                    generalize wr.alloc (.cells #[.int .i64 xa, .int .i64 xo, .int .i64 xc] 76) = W9 at *
                    obtain ⟨y0, y1, y2⟩ := Hgy.out.cs
                    obtain ⟨g0, g1, g2, g3, g4⟩ := Hgg.out.cs
                    have v0 := Hgk.out.c0
                    have v1 := Hgk.out.c1
                    obtain ⟨R, hR⟩ : ∃ z, hitN l b8 c9 p = z := ⟨_, rfl⟩
                    rw [hR] at HST ⊢
                    clear hR
                    cases R with
                    | true =>
                      go_quiet (fail)
                      clear y0 y1 y2 g0 g1 g2 g3 g4 v0 v1
                      (try go_wp2)
                      go_roundw
                      case rel => exact ⟨p + 1, by omega, by go_num, by rw [HST.out]; rfl, Hgf.out.kept (drewN_below (Below.refl _ W9) nq), Hgg.out.kept (drewN_below (Below.refl _ W9) nq), Hgk.out.kept (drewN_below (Below.refl _ W9) nq), drewN_below HB.out nq⟩
                      case measure => simp [intOf]; omega
                    | false =>
                      cases h1 : (xa == b8) with
                      | false =>
                        have HE := Lib.hid h1
                        go_quiet (fail)
                        clear y0 y1 y2 g0 g1 g2 g3 g4 v0 v1 h1
                        (try go_wp2)
                        go_roundw
                        case rel => exact ⟨p + 1, by omega, by go_num, by rw [HST.out, HE.out]; rfl, Hgf.out.kept (drewN_below (Below.refl _ W9) nq), Hgg.out.kept (drewN_below (Below.refl _ W9) nq), Hgk.out.kept (drewN_below (Below.refl _ W9) nq), drewN_below HB.out nq⟩
                        case measure => simp [intOf]; omega
                      | true =>
                        have HE := Lib.hid h1
                        by_cases h2 : 0 ≤ xo
                        · have hd2 : decide (0 ≤ xo) = true := decide_eq_true h2
                          have HD2 := Lib.hid hd2
                          by_cases h3 : xo ≤ c9
                          · have hd3 : decide (xo ≤ c9) = true := decide_eq_true h3
                            have HD3 := Lib.hid hd3
                            go_quiet (fail)
                            clear y0 y1 y2 g0 g1 g2 g3 g4 v0 v1 h1 h2 h3 hd2 hd3
                            (try go_wp2)
                            go_roundw
                            case rel => exact ⟨p + 1, by omega, by go_num, by rw [HST.out, HE.out, HD2.out, HD3.out]; rfl, Hgf.out.kept (drewN_below (Below.refl _ W9) nq), Hgg.out.kept (drewN_below (Below.refl _ W9) nq), Hgk.out.kept (drewN_below (Below.refl _ W9) nq), drewN_below HB.out nq⟩
                            case measure => simp [intOf]; omega
                          · have hd3 : decide (xo ≤ c9) = false := decide_eq_false h3
                            have HD3 := Lib.hid hd3
                            go_quiet (fail)
                            clear y0 y1 y2 g0 g1 g2 g3 g4 v0 v1 h1 h2 h3 hd2 hd3
                            (try go_wp2)
                            go_roundw
                            case rel => exact ⟨p + 1, by omega, by go_num, by rw [HST.out, HE.out, HD2.out, HD3.out]; rfl, Hgf.out.kept (drewN_below (Below.refl _ W9) nq), Hgg.out.kept (drewN_below (Below.refl _ W9) nq), Hgk.out.kept (drewN_below (Below.refl _ W9) nq), drewN_below HB.out nq⟩
                            case measure => simp [intOf]; omega
                        · have hd2 : decide (0 ≤ xo) = false := decide_eq_false h2
                          have HD2 := Lib.hid hd2
                          go_quiet (fail)
                          clear y0 y1 y2 g0 g1 g2 g3 g4 v0 v1 h1 h2 hd2
                          (try go_wp2)
                          go_roundw
                          case rel => exact ⟨p + 1, by omega, by go_num, by rw [HST.out, HE.out, HD2.out]; rfl, Hgf.out.kept (drewN_below (Below.refl _ W9) nq), Hgg.out.kept (drewN_below (Below.refl _ W9) nq), Hgk.out.kept (drewN_below (Below.refl _ W9) nq), drewN_below HB.out nq⟩
                          case measure => simp [intOf]; omega
                  · obtain rfl : p = J := by omega
                    have hh : hitN l b8 c9 p = true := by rw [← HJ.out]; exact HCM.out
                    rw [hh]
                    clear hh
                    go_upto_region 30 with (fail)
                    obtain ⟨g0, g1, g2, g3, g4⟩ := Hgg.out.cs
                    obtain ⟨d0, d1, d2, d3, d4⟩ := Hgf.out.cs
                    have z0 := Hgf.out.fz 0
                    have z1 := Hgf.out.fz 1
                    have z2 := Hgf.out.fz 2
                    have z3 := Hgf.out.fz 3
                    have z4 := Hgf.out.fz 4
                    (try go_wp2)
                    go_roundw
                    case rel => exact ⟨j + 1, k8, b8, t8, u8, most, c9, by omega, by go_num, rfl, HGJ.out, HC9.out.1, HC9.out.2.1, Hgf.out.fill 2 k8 b8 t8 u8, ((((Hgk.out.other _ _ HNE.out.symm).other _ _ HNE.out.symm).other _ _ HNE.out.symm).other _ _ HNE.out.symm).other _ _ HNE.out.symm, bel5 HB.out HGK.out.2 _ _ _ _ _⟩
                    case measure => simp [intOf]; omega
              · have h4 : ¬ b < b8 := hri
                clear HGC
                clear h4
                go_upto_region 30 with (fail)
                obtain ⟨g0, g1, g2, g3, g4⟩ := Hgg.out.cs
                obtain ⟨d0, d1, d2, d3, d4⟩ := Hgf.out.cs
                have z0 := Hgf.out.fz 0
                have z1 := Hgf.out.fz 1
                have z2 := Hgf.out.fz 2
                have z3 := Hgf.out.fz 3
                have z4 := Hgf.out.fz 4
                (try go_wp2)
                go_roundw
                case rel => exact ⟨j + 1, k8, b8, t8, u8, most, c9, by omega, by go_num, rfl, HGJ.out, HC9.out.1, HC9.out.2.1, Hgf.out.fill 2 k8 b8 t8 u8, ((((Hgk.out.other _ _ HNE.out.symm).other _ _ HNE.out.symm).other _ _ HNE.out.symm).other _ _ HNE.out.symm).other _ _ HNE.out.symm, bel5 HB.out HGK.out.2 _ _ _ _ _⟩
                case measure => simp [intOf]; omega
      · obtain rfl : j = m := by omega
        go_wp2_with (go_at_call 19; (with_reducible refine (HLV.out _).mono ?_); rintro e20 w20 ⟨rfl, hb20⟩)
        go_ret
        exact ⟨rfl, HB.out.trans (hb20.mono HB.out.size)⟩
  · clear HM1
    go_wp2_with (go_at_call 19; (with_reducible refine (HLV.out _).mono ?_); rintro e20 w20 ⟨rfl, hb20⟩)
    go_ret
    exact ⟨rfl, HB.out.trans (hb20.mono HB.out.size)⟩
end Go.Proofs.Ytdjhiaogpgaboaa
end

section
namespace Go.Proofs.Ytdjhiaogpgaboaa
open Go.RowKit Go Go.Sort
set_option linter.unusedVariables false

theorem fgrows_walk {w : World} (site : Int) {a : Option Addr} {m cap : Nat} {l : List Tl} (hl : Tls w a m cap l) : Calls Try.prog 7 #[.int .i64 site, .slice a m cap] w (Tells (.bool true) w) := by
  obtain ⟨q0, hq0, h1, h2⟩ := umodF site 2 (by omega) (by omega)
  rcases (by omega : q0 = 0 ∨ q0 = 1) with h | h
  · exact fgrows1 hl hq0 h
  · exact fgrows2 hl hq0 h
end Go.Proofs.Ytdjhiaogpgaboaa
end

