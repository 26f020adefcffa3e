/-
  Merged: G2 E7 H4 H5.
-/
import Derived.Deep.QuietTactic
import Derived.StillTail
import Derived.Lib.QuietBelow
import Derived.Test.YteffbibmfpdenaaRows
import Derived.WalkKit
import Derived.Lib.Hide
import Derived.BigQuiet
import Derived.BigRegion
import Derived.Deep.Cut
import Derived.Deep.MidRow
import Derived.Great.BuildSlice
import Derived.Outline
import Derived.OwnWalk
import Derived.Laws.Rows
import Derived.ChangeKeysEq
import Derived.Laws.StructEq
import Derived.WalkSpells
import Derived.WalkLawsBesides
import Derived.Laws.CopyOwn
import Derived.WalkSmall
import Derived.Lib.LaidTab
import Derived.Deep.RegionWith
import Derived.Lib.MinMax
import Derived.WideShapes
import Derived.ChangeSame
import Derived.OpenShut
import Derived.Deep.Slices
import Derived.Deep.AppendSrc
import Derived.Lib.AppendZerosOnto
import Derived.Lib.SliceRun
import Derived.Lib.Walk
import Derived.Lib.OthersKept
import Derived.Laws.RangeAny
import Derived.Maps.OwnOps
import Derived.Maps.Views
import Derived.ChangeSlices
import Derived.ChangeArms
import Derived.Deep.DeepAppendWide
import Derived.OrdersIn
import Derived.TacticsIn
import Derived.RangeFuncNested
import Derived.RangeFuncBound
import Derived.RangeFuncCalls
import Derived.RangeFuncLeaves
import Derived.Maps.AppendAt
import Derived.Shelf.Abstract
import Derived.OwnWalkIn
import Derived.TacticsInMore
import Derived.LoopNIn
import Derived.LoopIn
import Derived.Test.YteffbibmfpdenaaSS4

section
namespace Go.Proofs.Yteffbibmfpdenaa
open Go.RowKit Go Go.Sort
set_option linter.unusedVariables false
set_option maxRecDepth 20000

def goodHeadS (site seq n s a b : Int) : Bool := (site == 1 || site == 2) && (sgood n s && (s == site)) && (vgood a b && (decide (1 ≤ seq) && (seq == (if site = 1 then a else b))))
def gwsS (n1 : Nat) (l : List Wr) : Bool := decide (1 ≤ l.length) && (decide (l.length ≤ 8) && (List.range l.length).all (wAt n1 l))
theorem vgood_max {a b : Int} (h : vgood a b = true) : a ≤ 1099511627776 ∧ b ≤ 1099511627776 := by
  simp [vgood] at h
  omega
theorem head_eq (site seq n s a b : Int) (m : Nat) : headBad site seq n s a b m = !(goodHeadS site seq n s a b && (decide (1 ≤ m) && decide (m ≤ 8))) := by
  unfold headBad goodHeadS
  by_cases h1 : site = 1
  · subst h1
    by_cases h9 : s = 1
    · subst h9
      cases hv : vgood a b with
      | true =>
        have := vgood_max hv
        cases sgood n 1 <;> rw [Bool.eq_iff_iff] <;> simp <;> omega
      | false => simp
    · have : (s == 1) = false := by simpa using h9
      simp [this, h9]
  · by_cases h2 : site = 2
    · subst h2
      by_cases h9 : s = 2
      · subst h9
        cases hv : vgood a b with
        | true =>
          have := vgood_max hv
          cases sgood n 2 <;> rw [Bool.eq_iff_iff] <;> simp <;> omega
        | false => simp
      · have : (s == 2) = false := by simpa using h9
        simp [this, h9]
    · have e1 : (site == 1) = false := by simpa using h1
      have e2 : (site == 2) = false := by simpa using h2
      simp [bne, e1, e2]
theorem gws_no {n1 : Nat} {l : List Wr} {k : Nat} (hk : k < l.length) (h : wAt n1 l k = false) : gwsS n1 l = false := by
  unfold gwsS
  have : (List.range l.length).all (wAt n1 l) = false := by
    cases hb : (List.range l.length).all (wAt n1 l) with
    | false => rfl
    | true =>
      have := List.all_eq_true.1 hb k (List.mem_range.2 hk)
      rw [h] at this
      cases this
  rw [this]
  simp
theorem gws_yes {n1 : Nat} {l : List Wr} (h1 : 1 ≤ l.length) (h8 : l.length ≤ 8) (h : ∀ k, k < l.length → wAt n1 l k = true) : gwsS n1 l = true := by
  unfold gwsS
  have : (List.range l.length).all (wAt n1 l) = true := List.all_eq_true.2 fun k hk => h k (List.mem_range.1 hk)
  rw [this]
  simp [h1, h8]
theorem chgood_eq (gs : List Grp) (site seq n s a b : Int) (l : List Wr) : chgoodS gs site seq n s a b l = if ¬ pgoodS gs = 0 then pgoodS gs else if (goodHeadS site seq n s a b && gwsS gs.length l) = true then 0 else 120 := by
  unfold chgoodS
  rw [head_eq]
  unfold gwsS
  by_cases h : pgoodS gs = 0
  · rw [if_neg (not_not_intro h), if_neg (not_not_intro h)]
    cases goodHeadS site seq n s a b <;> cases decide (1 ≤ l.length) <;> cases decide (l.length ≤ 8) <;> simp
  · rw [if_pos h, if_pos h]
theorem ch_cells' {W : World} {q : Nat} {site seq n s a b : Int} {x2 : Option Addr} {m cap2 : Nat} (h : W.heap[q]? = some (.cells #[.int .i64 site, .int .i64 seq, .int .i64 n, .int .i64 s, .int .i64 a, .int .i64 b, .slice x2 m cap2] 95 (0, 0))) : W.cell? ⟨q, 0, none⟩ = some (.int .i64 site) ∧ W.cell? ⟨q, 1, none⟩ = some (.int .i64 seq) ∧ W.cell? ⟨q, 2, none⟩ = some (.int .i64 n) ∧ W.cell? ⟨q, 3, none⟩ = some (.int .i64 s) ∧ W.cell? ⟨q, 4, none⟩ = some (.int .i64 a) ∧ W.cell? ⟨q, 5, none⟩ = some (.int .i64 b) := by
  obtain ⟨c0, c1, c2, c3, c4, c5, -⟩ := ch_cells h
  exact ⟨c0, c1, c2, c3, c4, c5⟩
set_option maxHeartbeats 12800000 in
theorem goodhead_c (site seq n s a b : Int) (x2 : Option Addr) (m cap2 : Nat) (w : World) : Calls Try.prog 132 #[.agg #[.int .i64 site, .int .i64 seq, .int .i64 n, .int .i64 s, .int .i64 a, .int .i64 b, .slice x2 m cap2]] w (Tells (.bool (goodHeadS site seq n s a b)) w) := by
  have HB0 := Lib.hid (alloc_below w (.cells #[.int .i64 site, .int .i64 seq, .int .i64 n, .int .i64 s, .int .i64 a, .int .i64 b, .slice x2 m cap2] 95))
  have hr := heap_alloc_new w (.cells #[.int .i64 site, .int .i64 seq, .int .i64 n, .int .i64 s, .int .i64 a, .int .i64 b, .slice x2 m cap2] 95)
  have HC0 := Lib.hid (fun W (h : Below (w.alloc (.cells #[.int .i64 site, .int .i64 seq, .int .i64 n, .int .i64 s, .int .i64 a, .int .i64 b, .slice x2 m cap2] 95)).heap.size (w.alloc (.cells #[.int .i64 site, .int .i64 seq, .int .i64 n, .int .i64 s, .int .i64 a, .int .i64 b, .slice x2 m cap2] 95)) W) => ch_cells' (heap_below hr h))
  obtain ⟨c0, c1, c2, c3, c4, c5⟩ := ch_cells' hr
  clear hr
  by_cases h1 : site = 1
  · subst h1
    have HRR0 := Lib.hid (show goodHeadS 1 seq n s a b = ((sgood n s && (s == 1)) && (vgood a b && (decide (1 ≤ seq) && (seq == a)))) from by simp [goodHeadS])
    obtain ⟨r, hr⟩ : ∃ r, goodHeadS 1 seq n s a b = r := ⟨_, rfl⟩
    rw [hr] at HRR0 ⊢
    have hsg := fun W => sgood_c n s W
    have hvg := fun W => vgood_c a b W
    obtain ⟨SG, hSG⟩ : ∃ z, sgood n s = z := ⟨_, rfl⟩
    obtain ⟨VG, hVG⟩ : ∃ z, vgood a b = z := ⟨_, rfl⟩
    rw [hSG, hVG] at HRR0
    simp only [hSG] at hsg
    simp only [hVG] at hvg
    have HSG := Lib.hid hsg
    have HVG := Lib.hid hvg
    clear hr hSG hVG hsg hvg
    cases SG with
    | false =>
      have HRR := Lib.hid (show r = false by rw [HRR0.out]; rfl)
      clear HRR0
      go_enter Try.func132, Try.ntmps132
      go_upto_region 4 with (go_at_call 143; (with_reducible refine (HSG.out _).mono ?_); rintro e9 w2 ⟨rfl, hb2⟩)
      have HB1 := Lib.hid (HB0.out.trans (hb2.mono HB0.out.size))
      have HCW := Lib.hid (fun W (h : Below w2.heap.size w2 W) => HC0.out W (hb2.trans (h.mono hb2.size)))
      clear hb2 HB0 HC0 HSG c0 c1 c2 c3 c4 c5
      obtain ⟨B, hB⟩ : ∃ z, w.heap.size = z := ⟨_, rfl⟩
      simp only [hB] at HCW ⊢
      have HBe := Lib.hid hB
      clear hB
      refine wp_region_flow [none,none, some 22, none,none,none,none,none,none,none,none,none,none,none,none,none,none,none,none,none,none,none,none, some 0, some 1, some 2, some 3, some 4, some 5, some 6, some 7, some 8, some 9, some 10, some 11, some 12, some 13, some 14, some 15, some 16, some 17, some 18, some 19, some 20, some 21] (fun i => [undef,undef,undef,undef,undef,undef,undef,undef,undef,undef,undef,undef,undef,undef,undef,undef,undef,undef,undef,undef,undef,undef, .bool false].getD i undef) [(fun v _ => v = .bool false), (fun v _ => v = .bool false), (fun v _ => v = undef), (fun v _ => v = undef), (fun v _ => v = undef), (fun v _ => v = .bool false), (fun v _ => v = .bool false), (fun v _ => v = undef), (fun v _ => v = undef), (fun v _ => v = undef), (fun v _ => v = .bool false), (fun v _ => v = .bool false), (fun v _ => v = undef), (fun v _ => v = undef), (fun v _ => v = undef), (fun v _ => v = undef), (fun v _ => v = undef), (fun v _ => v = undef), (fun v _ => v = undef), (fun v _ => v = undef), (fun v _ => v = undef), (fun v _ => v = .bool false), (fun v _ => v = .bool false)] (by kernel_rfl) (by kernel_rfl) rfl rfl rfl ?_ ?_ ?_
      · intro g hg v X Y hX hY hv
        simp only [List.mem_cons, List.not_mem_nil, or_false] at hg
        rcases hg with rfl | rfl | rfl | rfl | rfl | rfl | rfl | rfl | rfl | rfl | rfl | rfl | rfl | rfl | rfl | rfl | rfl | rfl | rfl | rfl | rfl | rfl | rfl
        all_goals first
          | exact hv
          | exact hv.kept hY
      · simp only [flowOps, and_true]
        refine ⟨?_,?_,?_,?_,?_,?_,?_,?_,?_,?_,?_,?_,?_,?_,?_,?_,?_,?_,?_,?_,?_,?_,?_⟩
        · intro xs W hW hn
          simp only [flowAct, zwc, zwn]
          go_wp2_with (fail)
          exact ⟨rfl, _, rfl, Below.refl _ _, rfl⟩
        · intro xs W hW hn
          simp [flowNeeds, Region.binds] at hn
          simp only [flowAct, zwc, zwn]
          try simp only [hn]
          go_wp2_with (fail)
          exact ⟨rfl, _, rfl, Below.refl _ _, rfl⟩
        · intro xs W hW hn
          simp [flowNeeds, Region.binds] at hn
          simp only [flowAct, zwc, zwn]
          try simp only [hn]
          go_wp2_with (fail)
          exact ⟨rfl, _, rfl, Below.refl _ _, rfl⟩
        · intro xs W hW hn
          simp [flowNeeds, Region.binds] at hn
          simp only [flowAct, zwc, zwn]
          try simp only [hn]
          go_wp2_with (fail)
          exact ⟨rfl, _, rfl, Below.refl _ _, rfl⟩
        · intro xs W hW hn
          simp [flowNeeds, Region.binds] at hn
          simp only [flowAct, zwc, zwn]
          try simp only [hn]
          go_wp2_with (fail)
          exact ⟨rfl, _, rfl, Below.refl _ _, rfl⟩
        · intro xs W hW hn
          simp [flowNeeds, Region.binds] at hn
          simp only [flowAct, zwc, zwn]
          try simp only [hn]
          go_wp2_with (fail)
          exact ⟨rfl, _, rfl, Below.refl _ _, rfl⟩
        · intro xs W hW hn
          simp [flowNeeds, Region.binds] at hn
          simp only [flowAct, zwc, zwn]
          try simp only [hn]
          go_wp2_with (fail)
          exact ⟨rfl, _, rfl, Below.refl _ _, rfl⟩
        · intro xs W hW hn
          simp [flowNeeds, Region.binds] at hn
          simp only [flowAct, zwc, zwn]
          try simp only [hn]
          go_wp2_with (fail)
          exact ⟨rfl, _, rfl, Below.refl _ _, rfl⟩
        · intro xs W hW hn
          simp [flowNeeds, Region.binds] at hn
          simp only [flowAct, zwc, zwn]
          try simp only [hn]
          go_wp2_with (fail)
          exact ⟨rfl, _, rfl, Below.refl _ _, rfl⟩
        · intro xs W hW hn
          simp [flowNeeds, Region.binds] at hn
          simp only [flowAct, zwc, zwn]
          try simp only [hn]
          go_wp2_with (fail)
          exact ⟨rfl, _, rfl, Below.refl _ _, rfl⟩
        · intro xs W hW hn
          simp [flowNeeds, Region.binds] at hn
          simp only [flowAct, zwc, zwn]
          try simp only [hn]
          go_wp2_with (fail)
          exact ⟨rfl, _, rfl, Below.refl _ _, rfl⟩
        · intro xs W hW hn
          simp [flowNeeds, Region.binds] at hn
          simp only [flowAct, zwc, zwn]
          try simp only [hn]
          go_wp2_with (fail)
          exact ⟨rfl, _, rfl, Below.refl _ _, rfl⟩
        · intro xs W hW hn
          simp [flowNeeds, Region.binds] at hn
          simp only [flowAct, zwc, zwn]
          try simp only [hn]
          go_wp2_with (fail)
          exact ⟨rfl, _, rfl, Below.refl _ _, rfl⟩
        · intro xs W hW hn
          simp [flowNeeds, Region.binds] at hn
          simp only [flowAct, zwc, zwn]
          try simp only [hn]
          go_wp2_with (fail)
          exact ⟨rfl, _, rfl, Below.refl _ _, rfl⟩
        · intro xs W hW hn
          simp [flowNeeds, Region.binds] at hn
          simp only [flowAct, zwc, zwn]
          try simp only [hn]
          go_wp2_with (fail)
          exact ⟨rfl, _, rfl, Below.refl _ _, rfl⟩
        · intro xs W hW hn
          simp [flowNeeds, Region.binds] at hn
          simp only [flowAct, zwc, zwn]
          try simp only [hn]
          go_wp2_with (fail)
          exact ⟨rfl, _, rfl, Below.refl _ _, rfl⟩
        · intro xs W hW hn
          simp [flowNeeds, Region.binds] at hn
          simp only [flowAct, zwc, zwn]
          try simp only [hn]
          go_wp2_with (fail)
          exact ⟨rfl, _, rfl, Below.refl _ _, rfl⟩
        · intro xs W hW hn
          simp [flowNeeds, Region.binds] at hn
          simp only [flowAct, zwc, zwn]
          try simp only [hn]
          go_wp2_with (fail)
          exact ⟨rfl, _, rfl, Below.refl _ _, rfl⟩
        · intro xs W hW hn
          simp [flowNeeds, Region.binds] at hn
          simp only [flowAct, zwc, zwn]
          try simp only [hn]
          go_wp2_with (fail)
          exact ⟨rfl, _, rfl, Below.refl _ _, rfl⟩
        · intro xs W hW hn
          simp [flowNeeds, Region.binds] at hn
          simp only [flowAct, zwc, zwn]
          try simp only [hn]
          go_wp2_with (fail)
          exact ⟨rfl, _, rfl, Below.refl _ _, rfl⟩
        · intro xs W hW hn
          simp [flowNeeds, Region.binds] at hn
          simp only [flowAct, zwc, zwn]
          try simp only [hn]
          go_wp2_with (fail)
          exact ⟨rfl, _, rfl, Below.refl _ _, rfl⟩
        · intro xs W hW hn
          simp [flowNeeds, Region.binds] at hn
          simp only [flowAct, zwc, zwn]
          try simp only [hn]
          go_wp2_with (fail)
          exact ⟨rfl, _, rfl, Below.refl _ _, rfl⟩
        · intro xs W hW hn
          simp [flowNeeds, Region.binds] at hn
          simp only [flowAct, zwc, zwn]
          try simp only [hn]
          go_wp2_with (fail)
          exact ⟨rfl, _, rfl, Below.refl _ _, rfl⟩
      · intro xs W hW hall
        simp only [flowAll, and_true, Nat.zero_add, Nat.reduceAdd] at hall
        obtain ⟨-,-,-,-,-,-,-,-,-,-,-,-,-,-,-,-,-,-,-,-,-,-, e22⟩ := hall
        simp only [flowAct, zwc, zwn]
        simp only [e22]
        go_wp2
        go_ret
        exact ⟨by rw [HRR.out]; rfl, HB1.out.trans (hW.mono HB1.out.size)⟩
    | true =>
      by_cases hss : s = 1
      · have hsb : (s == 1) = true := by simpa using hss
        subst hss
        rw [hsb] at HRR0
        clear hsb
        go_enter Try.func132, Try.ntmps132
        go_upto_region 4 with (go_at_call 143; (with_reducible refine (HSG.out _).mono ?_); rintro e9 w2 ⟨rfl, hb2⟩; obtain ⟨c0, c1, c2, c3, c4, c5⟩ := HC0.out w2 hb2)
        have HB1 := Lib.hid (HB0.out.trans (hb2.mono HB0.out.size))
        have HCW := Lib.hid (fun W (h : Below w2.heap.size w2 W) => HC0.out W (hb2.trans (h.mono hb2.size)))
        clear hb2 HB0 HC0 HSG c0 c1 c2 c3 c4 c5
        obtain ⟨B, hB⟩ : ∃ z, w.heap.size = z := ⟨_, rfl⟩
        simp only [hB] at HCW ⊢
        have HBe := Lib.hid hB
        clear hB
        cases VG with
        | false =>
          have HRR := Lib.hid (show r = false by rw [HRR0.out]; rfl)
          clear HRR0
          refine wp_region_flow [none,none, some 22, none,none,none,none,none,none,none,none,none,none,none,none,none,none,none,none,none,none,none,none, some 0, some 1, some 2, some 3, some 4, some 5, some 6, some 7, some 8, some 9, some 10, some 11, some 12, some 13, some 14, some 15, some 16, some 17, some 18, some 19, some 20, some 21] (fun i => [undef,undef,undef,undef,undef,undef,undef,undef,undef,undef,undef,undef,undef,undef,undef,undef,undef,undef,undef,undef,undef,undef, .bool false].getD i undef) [(fun v _ => v = .bool true), (fun v _ => v = .bool true), (fun v _ => v = .pointer (some ⟨B, 4, none⟩)), (fun v _ => v = .agg #[.int .i64 a, .int .i64 b]), (fun v _ => v = .bool false), (fun v _ => v = .bool false), (fun v _ => v = .bool false), (fun v _ => v = undef), (fun v _ => v = undef), (fun v _ => v = undef), (fun v _ => v = .bool false), (fun v _ => v = .bool false), (fun v _ => v = undef), (fun v _ => v = undef), (fun v _ => v = undef), (fun v _ => v = undef), (fun v _ => v = undef), (fun v _ => v = undef), (fun v _ => v = undef), (fun v _ => v = undef), (fun v _ => v = undef), (fun v _ => v = .bool false), (fun v _ => v = .bool false)] (by kernel_rfl) (by kernel_rfl) rfl rfl rfl ?_ ?_ ?_
          · intro g hg v X Y hX hY hv
            simp only [List.mem_cons, List.not_mem_nil, or_false] at hg
            rcases hg with rfl | rfl | rfl | rfl | rfl | rfl | rfl | rfl | rfl | rfl | rfl | rfl | rfl | rfl | rfl | rfl | rfl | rfl | rfl | rfl | rfl | rfl | rfl
            all_goals first
              | exact hv
              | exact hv.kept hY
          · simp only [flowOps, and_true]
            refine ⟨?_,?_,?_,?_,?_,?_,?_,?_,?_,?_,?_,?_,?_,?_,?_,?_,?_,?_,?_,?_,?_,?_,?_⟩
            · intro xs W hW hn
              simp only [flowAct, zwc, zwn]
              go_wp2_with (fail)
              exact ⟨rfl, _, rfl, Below.refl _ _, rfl⟩
            · intro xs W hW hn
              simp [flowNeeds, Region.binds] at hn
              simp only [flowAct, zwc, zwn]
              try simp only [hn]
              go_wp2_with (fail)
              exact ⟨rfl, _, rfl, Below.refl _ _, rfl⟩
            · intro xs W hW hn
              simp [flowNeeds, Region.binds] at hn
              simp only [flowAct, zwc, zwn]
              try simp only [hn]
              go_wp2_with (fail)
              exact ⟨rfl, _, rfl, Below.refl _ _, rfl⟩
            · intro xs W hW hn
              obtain ⟨c0, c1, c2, c3, c4, c5⟩ := HCW.out W hW
              simp [flowNeeds, Region.binds] at hn
              simp only [flowAct, zwc, zwn]
              try simp only [hn]
              go_wp2_with (fail)
              exact ⟨rfl, _, rfl, Below.refl _ _, rfl⟩
            · intro xs W hW hn
              simp [flowNeeds, Region.binds] at hn
              simp only [flowAct, zwc, zwn]
              try simp only [hn]
              go_wp2_with (go_at_call 135; (with_reducible refine (HVG.out _).mono ?_); rintro e9 w9 ⟨rfl, hb9⟩)
              exact ⟨rfl, _, rfl, hb9, rfl⟩
            · intro xs W hW hn
              simp [flowNeeds, Region.binds] at hn
              simp only [flowAct, zwc, zwn]
              try simp only [hn]
              go_wp2_with (fail)
              exact ⟨rfl, _, rfl, Below.refl _ _, rfl⟩
            · intro xs W hW hn
              simp [flowNeeds, Region.binds] at hn
              simp only [flowAct, zwc, zwn]
              try simp only [hn]
              go_wp2_with (fail)
              exact ⟨rfl, _, rfl, Below.refl _ _, rfl⟩
            · intro xs W hW hn
              simp [flowNeeds, Region.binds] at hn
              simp only [flowAct, zwc, zwn]
              try simp only [hn]
              go_wp2_with (fail)
              exact ⟨rfl, _, rfl, Below.refl _ _, rfl⟩
            · intro xs W hW hn
              simp [flowNeeds, Region.binds] at hn
              simp only [flowAct, zwc, zwn]
              try simp only [hn]
              go_wp2_with (fail)
              exact ⟨rfl, _, rfl, Below.refl _ _, rfl⟩
            · intro xs W hW hn
              simp [flowNeeds, Region.binds] at hn
              simp only [flowAct, zwc, zwn]
              try simp only [hn]
              go_wp2_with (fail)
              exact ⟨rfl, _, rfl, Below.refl _ _, rfl⟩
            · intro xs W hW hn
              simp [flowNeeds, Region.binds] at hn
              simp only [flowAct, zwc, zwn]
              try simp only [hn]
              go_wp2_with (fail)
              exact ⟨rfl, _, rfl, Below.refl _ _, rfl⟩
            · intro xs W hW hn
              simp [flowNeeds, Region.binds] at hn
              simp only [flowAct, zwc, zwn]
              try simp only [hn]
              go_wp2_with (fail)
              exact ⟨rfl, _, rfl, Below.refl _ _, rfl⟩
            · intro xs W hW hn
              simp [flowNeeds, Region.binds] at hn
              simp only [flowAct, zwc, zwn]
              try simp only [hn]
              go_wp2_with (fail)
              exact ⟨rfl, _, rfl, Below.refl _ _, rfl⟩
            · intro xs W hW hn
              simp [flowNeeds, Region.binds] at hn
              simp only [flowAct, zwc, zwn]
              try simp only [hn]
              go_wp2_with (fail)
              exact ⟨rfl, _, rfl, Below.refl _ _, rfl⟩
            · intro xs W hW hn
              simp [flowNeeds, Region.binds] at hn
              simp only [flowAct, zwc, zwn]
              try simp only [hn]
              go_wp2_with (fail)
              exact ⟨rfl, _, rfl, Below.refl _ _, rfl⟩
            · intro xs W hW hn
              simp [flowNeeds, Region.binds] at hn
              simp only [flowAct, zwc, zwn]
              try simp only [hn]
              go_wp2_with (fail)
              exact ⟨rfl, _, rfl, Below.refl _ _, rfl⟩
            · intro xs W hW hn
              simp [flowNeeds, Region.binds] at hn
              simp only [flowAct, zwc, zwn]
              try simp only [hn]
              go_wp2_with (fail)
              exact ⟨rfl, _, rfl, Below.refl _ _, rfl⟩
            · intro xs W hW hn
              simp [flowNeeds, Region.binds] at hn
              simp only [flowAct, zwc, zwn]
              try simp only [hn]
              go_wp2_with (fail)
              exact ⟨rfl, _, rfl, Below.refl _ _, rfl⟩
            · intro xs W hW hn
              simp [flowNeeds, Region.binds] at hn
              simp only [flowAct, zwc, zwn]
              try simp only [hn]
              go_wp2_with (fail)
              exact ⟨rfl, _, rfl, Below.refl _ _, rfl⟩
            · intro xs W hW hn
              simp [flowNeeds, Region.binds] at hn
              simp only [flowAct, zwc, zwn]
              try simp only [hn]
              go_wp2_with (fail)
              exact ⟨rfl, _, rfl, Below.refl _ _, rfl⟩
            · intro xs W hW hn
              simp [flowNeeds, Region.binds] at hn
              simp only [flowAct, zwc, zwn]
              try simp only [hn]
              go_wp2_with (fail)
              exact ⟨rfl, _, rfl, Below.refl _ _, rfl⟩
            · intro xs W hW hn
              simp [flowNeeds, Region.binds] at hn
              simp only [flowAct, zwc, zwn]
              try simp only [hn]
              go_wp2_with (fail)
              exact ⟨rfl, _, rfl, Below.refl _ _, rfl⟩
            · intro xs W hW hn
              simp [flowNeeds, Region.binds] at hn
              simp only [flowAct, zwc, zwn]
              try simp only [hn]
              go_wp2_with (fail)
              exact ⟨rfl, _, rfl, Below.refl _ _, rfl⟩
          · intro xs W hW hall
            simp only [flowAll, and_true, Nat.zero_add, Nat.reduceAdd] at hall
            obtain ⟨-,-,-,-,-,-,-,-,-,-,-,-,-,-,-,-,-,-,-,-,-,-, e22⟩ := hall
            simp only [flowAct, zwc, zwn]
            simp only [e22]
            go_wp2
            go_ret
            exact ⟨by rw [HRR.out]; rfl, HB1.out.trans (hW.mono HB1.out.size)⟩
        | true =>
          by_cases hq : 1 ≤ seq
          · have HRR := Lib.hid (show r = (seq == a) by rw [HRR0.out]; simp [hq])
            clear HRR0
            refine wp_region_flow [none,none, some 22, none,none,none,none,none,none,none,none,none,none,none,none,none,none,none,none,none,none,none,none, some 0, some 1, some 2, some 3, some 4, some 5, some 6, some 7, some 8, some 9, some 10, some 11, some 12, some 13, some 14, some 15, some 16, some 17, some 18, some 19, some 20, some 21] (fun i => [undef,undef,undef,undef,undef,undef,undef,undef,undef,undef,undef,undef,undef,undef,undef,undef,undef,undef,undef,undef,undef,undef, .bool false].getD i undef) [(fun v _ => v = .bool true), (fun v _ => v = .bool true), (fun v _ => v = .pointer (some ⟨B, 4, none⟩)), (fun v _ => v = .agg #[.int .i64 a, .int .i64 b]), (fun v _ => v = .bool true), (fun v _ => v = .bool true), (fun v _ => v = .bool true), (fun v _ => v = .pointer (some ⟨B, 1, none⟩)), (fun v _ => v = .int .i64 seq), (fun v _ => v = .bool true), (fun v _ => v = .bool true), (fun v _ => v = .bool true), (fun v _ => v = .pointer (some ⟨B, 1, none⟩)), (fun v _ => v = .int .i64 seq), (fun v _ => v = .pointer (some ⟨B, 0, none⟩)), (fun v _ => v = .int .i64 1), (fun v _ => v = .int .i64 0), (fun v _ => v = .pointer (some ⟨B, 4, none⟩)), (fun v _ => v = .pointer (some ⟨B, 4, none⟩)), (fun v _ => v = .int .i64 a), (fun v _ => v = .bool (seq == a)), (fun v _ => v = .bool (seq == a)), (fun v _ => v = .bool (seq == a))] (by kernel_rfl) (by kernel_rfl) rfl rfl rfl ?_ ?_ ?_
            · intro g hg v X Y hX hY hv
              simp only [List.mem_cons, List.not_mem_nil, or_false] at hg
              rcases hg with rfl | rfl | rfl | rfl | rfl | rfl | rfl | rfl | rfl | rfl | rfl | rfl | rfl | rfl | rfl | rfl | rfl | rfl | rfl | rfl | rfl | rfl | rfl
              all_goals first
                | exact hv
                | exact hv.kept hY
            · simp only [flowOps, and_true]
              refine ⟨?_,?_,?_,?_,?_,?_,?_,?_,?_,?_,?_,?_,?_,?_,?_,?_,?_,?_,?_,?_,?_,?_,?_⟩
              · intro xs W hW hn
                simp only [flowAct, zwc, zwn]
                go_wp2_with (fail)
                exact ⟨rfl, _, rfl, Below.refl _ _, rfl⟩
              · intro xs W hW hn
                simp [flowNeeds, Region.binds] at hn
                simp only [flowAct, zwc, zwn]
                try simp only [hn]
                go_wp2_with (fail)
                exact ⟨rfl, _, rfl, Below.refl _ _, rfl⟩
              · intro xs W hW hn
                simp [flowNeeds, Region.binds] at hn
                simp only [flowAct, zwc, zwn]
                try simp only [hn]
                go_wp2_with (fail)
                exact ⟨rfl, _, rfl, Below.refl _ _, rfl⟩
              · intro xs W hW hn
                obtain ⟨c0, c1, c2, c3, c4, c5⟩ := HCW.out W hW
                simp [flowNeeds, Region.binds] at hn
                simp only [flowAct, zwc, zwn]
                try simp only [hn]
                go_wp2_with (fail)
                exact ⟨rfl, _, rfl, Below.refl _ _, rfl⟩
              · intro xs W hW hn
                simp [flowNeeds, Region.binds] at hn
                simp only [flowAct, zwc, zwn]
                try simp only [hn]
                go_wp2_with (go_at_call 135; (with_reducible refine (HVG.out _).mono ?_); rintro e9 w9 ⟨rfl, hb9⟩)
                exact ⟨rfl, _, rfl, hb9, rfl⟩
              · intro xs W hW hn
                simp [flowNeeds, Region.binds] at hn
                simp only [flowAct, zwc, zwn]
                try simp only [hn]
                go_wp2_with (fail)
                exact ⟨rfl, _, rfl, Below.refl _ _, rfl⟩
              · intro xs W hW hn
                simp [flowNeeds, Region.binds] at hn
                simp only [flowAct, zwc, zwn]
                try simp only [hn]
                go_wp2_with (fail)
                exact ⟨rfl, _, rfl, Below.refl _ _, rfl⟩
              · intro xs W hW hn
                simp [flowNeeds, Region.binds] at hn
                simp only [flowAct, zwc, zwn]
                try simp only [hn]
                go_wp2_with (fail)
                exact ⟨rfl, _, rfl, Below.refl _ _, rfl⟩
              · intro xs W hW hn
                obtain ⟨c0, c1, c2, c3, c4, c5⟩ := HCW.out W hW
                simp [flowNeeds, Region.binds] at hn
                simp only [flowAct, zwc, zwn]
                try simp only [hn]
                go_wp2_with (fail)
                exact ⟨rfl, _, rfl, Below.refl _ _, rfl⟩
              · intro xs W hW hn
                simp [flowNeeds, Region.binds] at hn
                simp only [flowAct, zwc, zwn]
                try simp only [hn]
                go_wp2_with (fail)
                exact ⟨rfl, _, rfl, Below.refl _ _, by first | rfl | go_num | (simp; done)⟩
              · intro xs W hW hn
                simp [flowNeeds, Region.binds] at hn
                simp only [flowAct, zwc, zwn]
                try simp only [hn]
                go_wp2_with (fail)
                exact ⟨rfl, _, rfl, Below.refl _ _, rfl⟩
              · intro xs W hW hn
                simp [flowNeeds, Region.binds] at hn
                simp only [flowAct, zwc, zwn]
                try simp only [hn]
                go_wp2_with (fail)
                exact ⟨rfl, _, rfl, Below.refl _ _, rfl⟩
              · intro xs W hW hn
                simp [flowNeeds, Region.binds] at hn
                simp only [flowAct, zwc, zwn]
                try simp only [hn]
                go_wp2_with (fail)
                exact ⟨rfl, _, rfl, Below.refl _ _, rfl⟩
              · intro xs W hW hn
                obtain ⟨c0, c1, c2, c3, c4, c5⟩ := HCW.out W hW
                simp [flowNeeds, Region.binds] at hn
                simp only [flowAct, zwc, zwn]
                try simp only [hn]
                go_wp2_with (fail)
                exact ⟨rfl, _, rfl, Below.refl _ _, rfl⟩
              · intro xs W hW hn
                simp [flowNeeds, Region.binds] at hn
                simp only [flowAct, zwc, zwn]
                try simp only [hn]
                go_wp2_with (fail)
                exact ⟨rfl, _, rfl, Below.refl _ _, rfl⟩
              · intro xs W hW hn
                obtain ⟨c0, c1, c2, c3, c4, c5⟩ := HCW.out W hW
                simp [flowNeeds, Region.binds] at hn
                simp only [flowAct, zwc, zwn]
                try simp only [hn]
                go_wp2_with (fail)
                exact ⟨rfl, _, rfl, Below.refl _ _, rfl⟩
              · intro xs W hW hn
                simp [flowNeeds, Region.binds] at hn
                simp only [flowAct, zwc, zwn]
                try simp only [hn]
                go_wp2_with (fail)
                exact ⟨rfl, _, rfl, Below.refl _ _, by first | rfl | go_num | (simp; done)⟩
              · intro xs W hW hn
                simp [flowNeeds, Region.binds] at hn
                simp only [flowAct, zwc, zwn]
                try simp only [hn]
                go_wp2_with (fail)
                exact ⟨rfl, _, rfl, Below.refl _ _, rfl⟩
              · intro xs W hW hn
                simp [flowNeeds, Region.binds] at hn
                simp only [flowAct, zwc, zwn]
                try simp only [hn]
                go_wp2_with (fail)
                exact ⟨rfl, _, rfl, Below.refl _ _, by first | rfl | go_num | (simp; done)⟩
              · intro xs W hW hn
                obtain ⟨c0, c1, c2, c3, c4, c5⟩ := HCW.out W hW
                simp [flowNeeds, Region.binds] at hn
                simp only [flowAct, zwc, zwn]
                try simp only [hn]
                go_wp2_with (fail)
                exact ⟨rfl, _, rfl, Below.refl _ _, rfl⟩
              · intro xs W hW hn
                simp [flowNeeds, Region.binds] at hn
                simp only [flowAct, zwc, zwn]
                try simp only [hn]
                go_wp2_with (fail)
                exact ⟨rfl, _, rfl, Below.refl _ _, by first | rfl | go_num | (simp; done)⟩
              · intro xs W hW hn
                simp [flowNeeds, Region.binds] at hn
                simp only [flowAct, zwc, zwn]
                try simp only [hn]
                go_wp2_with (fail)
                exact ⟨rfl, _, rfl, Below.refl _ _, rfl⟩
              · intro xs W hW hn
                simp [flowNeeds, Region.binds] at hn
                simp only [flowAct, zwc, zwn]
                try simp only [hn]
                go_wp2_with (fail)
                exact ⟨rfl, _, rfl, Below.refl _ _, rfl⟩
            · intro xs W hW hall
              simp only [flowAll, and_true, Nat.zero_add, Nat.reduceAdd] at hall
              obtain ⟨-,-,-,-,-,-,-,-,-,-,-,-,-,-,-,-,-,-,-,-,-,-, e22⟩ := hall
              simp only [flowAct, zwc, zwn]
              simp only [e22]
              go_wp2
              go_ret
              exact ⟨by rw [HRR.out]; rfl, HB1.out.trans (hW.mono HB1.out.size)⟩
          · have HRR := Lib.hid (show r = false by rw [HRR0.out]; simp [hq])
            clear HRR0
            refine wp_region_flow [none,none, some 22, none,none,none,none,none,none,none,none,none,none,none,none,none,none,none,none,none,none,none,none, some 0, some 1, some 2, some 3, some 4, some 5, some 6, some 7, some 8, some 9, some 10, some 11, some 12, some 13, some 14, some 15, some 16, some 17, some 18, some 19, some 20, some 21] (fun i => [undef,undef,undef,undef,undef,undef,undef,undef,undef,undef,undef,undef,undef,undef,undef,undef,undef,undef,undef,undef,undef,undef, .bool false].getD i undef) [(fun v _ => v = .bool true), (fun v _ => v = .bool true), (fun v _ => v = .pointer (some ⟨B, 4, none⟩)), (fun v _ => v = .agg #[.int .i64 a, .int .i64 b]), (fun v _ => v = .bool true), (fun v _ => v = .bool true), (fun v _ => v = .bool true), (fun v _ => v = .pointer (some ⟨B, 1, none⟩)), (fun v _ => v = .int .i64 seq), (fun v _ => v = .bool false), (fun v _ => v = .bool false), (fun v _ => v = .bool false), (fun v _ => v = undef), (fun v _ => v = undef), (fun v _ => v = undef), (fun v _ => v = undef), (fun v _ => v = undef), (fun v _ => v = undef), (fun v _ => v = undef), (fun v _ => v = undef), (fun v _ => v = undef), (fun v _ => v = .bool false), (fun v _ => v = .bool false)] (by kernel_rfl) (by kernel_rfl) rfl rfl rfl ?_ ?_ ?_
            · intro g hg v X Y hX hY hv
              simp only [List.mem_cons, List.not_mem_nil, or_false] at hg
              rcases hg with rfl | rfl | rfl | rfl | rfl | rfl | rfl | rfl | rfl | rfl | rfl | rfl | rfl | rfl | rfl | rfl | rfl | rfl | rfl | rfl | rfl | rfl | rfl
              all_goals first
                | exact hv
                | exact hv.kept hY
            · simp only [flowOps, and_true]
              refine ⟨?_,?_,?_,?_,?_,?_,?_,?_,?_,?_,?_,?_,?_,?_,?_,?_,?_,?_,?_,?_,?_,?_,?_⟩
              · intro xs W hW hn
                simp only [flowAct, zwc, zwn]
                go_wp2_with (fail)
                exact ⟨rfl, _, rfl, Below.refl _ _, rfl⟩
              · intro xs W hW hn
                simp [flowNeeds, Region.binds] at hn
                simp only [flowAct, zwc, zwn]
                try simp only [hn]
                go_wp2_with (fail)
                exact ⟨rfl, _, rfl, Below.refl _ _, rfl⟩
              · intro xs W hW hn
                simp [flowNeeds, Region.binds] at hn
                simp only [flowAct, zwc, zwn]
                try simp only [hn]
                go_wp2_with (fail)
                exact ⟨rfl, _, rfl, Below.refl _ _, rfl⟩
              · intro xs W hW hn
                obtain ⟨c0, c1, c2, c3, c4, c5⟩ := HCW.out W hW
                simp [flowNeeds, Region.binds] at hn
                simp only [flowAct, zwc, zwn]
                try simp only [hn]
                go_wp2_with (fail)
                exact ⟨rfl, _, rfl, Below.refl _ _, rfl⟩
              · intro xs W hW hn
                simp [flowNeeds, Region.binds] at hn
                simp only [flowAct, zwc, zwn]
                try simp only [hn]
                go_wp2_with (go_at_call 135; (with_reducible refine (HVG.out _).mono ?_); rintro e9 w9 ⟨rfl, hb9⟩)
                exact ⟨rfl, _, rfl, hb9, rfl⟩
              · intro xs W hW hn
                simp [flowNeeds, Region.binds] at hn
                simp only [flowAct, zwc, zwn]
                try simp only [hn]
                go_wp2_with (fail)
                exact ⟨rfl, _, rfl, Below.refl _ _, rfl⟩
              · intro xs W hW hn
                simp [flowNeeds, Region.binds] at hn
                simp only [flowAct, zwc, zwn]
                try simp only [hn]
                go_wp2_with (fail)
                exact ⟨rfl, _, rfl, Below.refl _ _, rfl⟩
              · intro xs W hW hn
                simp [flowNeeds, Region.binds] at hn
                simp only [flowAct, zwc, zwn]
                try simp only [hn]
                go_wp2_with (fail)
                exact ⟨rfl, _, rfl, Below.refl _ _, rfl⟩
              · intro xs W hW hn
                obtain ⟨c0, c1, c2, c3, c4, c5⟩ := HCW.out W hW
                simp [flowNeeds, Region.binds] at hn
                simp only [flowAct, zwc, zwn]
                try simp only [hn]
                go_wp2_with (fail)
                exact ⟨rfl, _, rfl, Below.refl _ _, rfl⟩
              · intro xs W hW hn
                simp [flowNeeds, Region.binds] at hn
                simp only [flowAct, zwc, zwn]
                try simp only [hn]
                go_wp2_with (fail)
                exact ⟨rfl, _, rfl, Below.refl _ _, by first | rfl | go_num | (simp; done)⟩
              · intro xs W hW hn
                simp [flowNeeds, Region.binds] at hn
                simp only [flowAct, zwc, zwn]
                try simp only [hn]
                go_wp2_with (fail)
                exact ⟨rfl, _, rfl, Below.refl _ _, rfl⟩
              · intro xs W hW hn
                simp [flowNeeds, Region.binds] at hn
                simp only [flowAct, zwc, zwn]
                try simp only [hn]
                go_wp2_with (fail)
                exact ⟨rfl, _, rfl, Below.refl _ _, rfl⟩
              · intro xs W hW hn
                simp [flowNeeds, Region.binds] at hn
                simp only [flowAct, zwc, zwn]
                try simp only [hn]
                go_wp2_with (fail)
                exact ⟨rfl, _, rfl, Below.refl _ _, rfl⟩
              · intro xs W hW hn
                simp [flowNeeds, Region.binds] at hn
                simp only [flowAct, zwc, zwn]
                try simp only [hn]
                go_wp2_with (fail)
                exact ⟨rfl, _, rfl, Below.refl _ _, rfl⟩
              · intro xs W hW hn
                simp [flowNeeds, Region.binds] at hn
                simp only [flowAct, zwc, zwn]
                try simp only [hn]
                go_wp2_with (fail)
                exact ⟨rfl, _, rfl, Below.refl _ _, rfl⟩
              · intro xs W hW hn
                simp [flowNeeds, Region.binds] at hn
                simp only [flowAct, zwc, zwn]
                try simp only [hn]
                go_wp2_with (fail)
                exact ⟨rfl, _, rfl, Below.refl _ _, rfl⟩
              · intro xs W hW hn
                simp [flowNeeds, Region.binds] at hn
                simp only [flowAct, zwc, zwn]
                try simp only [hn]
                go_wp2_with (fail)
                exact ⟨rfl, _, rfl, Below.refl _ _, rfl⟩
              · intro xs W hW hn
                simp [flowNeeds, Region.binds] at hn
                simp only [flowAct, zwc, zwn]
                try simp only [hn]
                go_wp2_with (fail)
                exact ⟨rfl, _, rfl, Below.refl _ _, rfl⟩
              · intro xs W hW hn
                simp [flowNeeds, Region.binds] at hn
                simp only [flowAct, zwc, zwn]
                try simp only [hn]
                go_wp2_with (fail)
                exact ⟨rfl, _, rfl, Below.refl _ _, rfl⟩
              · intro xs W hW hn
                simp [flowNeeds, Region.binds] at hn
                simp only [flowAct, zwc, zwn]
                try simp only [hn]
                go_wp2_with (fail)
                exact ⟨rfl, _, rfl, Below.refl _ _, rfl⟩
              · intro xs W hW hn
                simp [flowNeeds, Region.binds] at hn
                simp only [flowAct, zwc, zwn]
                try simp only [hn]
                go_wp2_with (fail)
                exact ⟨rfl, _, rfl, Below.refl _ _, rfl⟩
              · intro xs W hW hn
                simp [flowNeeds, Region.binds] at hn
                simp only [flowAct, zwc, zwn]
                try simp only [hn]
                go_wp2_with (fail)
                exact ⟨rfl, _, rfl, Below.refl _ _, rfl⟩
              · intro xs W hW hn
                simp [flowNeeds, Region.binds] at hn
                simp only [flowAct, zwc, zwn]
                try simp only [hn]
                go_wp2_with (fail)
                exact ⟨rfl, _, rfl, Below.refl _ _, rfl⟩
            · intro xs W hW hall
              simp only [flowAll, and_true, Nat.zero_add, Nat.reduceAdd] at hall
              obtain ⟨-,-,-,-,-,-,-,-,-,-,-,-,-,-,-,-,-,-,-,-,-,-, e22⟩ := hall
              simp only [flowAct, zwc, zwn]
              simp only [e22]
              go_wp2
              go_ret
              exact ⟨by rw [HRR.out]; rfl, HB1.out.trans (hW.mono HB1.out.size)⟩
      · have hsb : (s == 1) = false := by simpa using hss
        have HRR := Lib.hid (show r = false by rw [HRR0.out, hsb]; rfl)
        clear HRR0
        go_enter Try.func132, Try.ntmps132
        go_upto_region 4 with (go_at_call 143; (with_reducible refine (HSG.out _).mono ?_); rintro e9 w2 ⟨rfl, hb2⟩; obtain ⟨c0, c1, c2, c3, c4, c5⟩ := HC0.out w2 hb2)
        have HB1 := Lib.hid (HB0.out.trans (hb2.mono HB0.out.size))
        have HCW := Lib.hid (fun W (h : Below w2.heap.size w2 W) => HC0.out W (hb2.trans (h.mono hb2.size)))
        clear hb2 HB0 HC0 HSG c0 c1 c2 c3 c4 c5
        obtain ⟨B, hB⟩ : ∃ z, w.heap.size = z := ⟨_, rfl⟩
        simp only [hB] at HCW ⊢
        have HBe := Lib.hid hB
        clear hB
        refine wp_region_flow [none,none, some 22, none,none,none,none,none,none,none,none,none,none,none,none,none,none,none,none,none,none,none,none, some 0, some 1, some 2, some 3, some 4, some 5, some 6, some 7, some 8, some 9, some 10, some 11, some 12, some 13, some 14, some 15, some 16, some 17, some 18, some 19, some 20, some 21] (fun i => [undef,undef,undef,undef,undef,undef,undef,undef,undef,undef,undef,undef,undef,undef,undef,undef,undef,undef,undef,undef,undef,undef, .bool false].getD i undef) [(fun v _ => v = .bool false), (fun v _ => v = .bool false), (fun v _ => v = undef), (fun v _ => v = undef), (fun v _ => v = undef), (fun v _ => v = .bool false), (fun v _ => v = .bool false), (fun v _ => v = undef), (fun v _ => v = undef), (fun v _ => v = undef), (fun v _ => v = .bool false), (fun v _ => v = .bool false), (fun v _ => v = undef), (fun v _ => v = undef), (fun v _ => v = undef), (fun v _ => v = undef), (fun v _ => v = undef), (fun v _ => v = undef), (fun v _ => v = undef), (fun v _ => v = undef), (fun v _ => v = undef), (fun v _ => v = .bool false), (fun v _ => v = .bool false)] (by kernel_rfl) (by kernel_rfl) rfl rfl rfl ?_ ?_ ?_
        · intro g hg v X Y hX hY hv
          simp only [List.mem_cons, List.not_mem_nil, or_false] at hg
          rcases hg with rfl | rfl | rfl | rfl | rfl | rfl | rfl | rfl | rfl | rfl | rfl | rfl | rfl | rfl | rfl | rfl | rfl | rfl | rfl | rfl | rfl | rfl | rfl
          all_goals first
            | exact hv
            | exact hv.kept hY
        · simp only [flowOps, and_true]
          refine ⟨?_,?_,?_,?_,?_,?_,?_,?_,?_,?_,?_,?_,?_,?_,?_,?_,?_,?_,?_,?_,?_,?_,?_⟩
          · intro xs W hW hn
            simp only [flowAct, zwc, zwn]
            go_wp2_with (fail)
            exact ⟨rfl, _, rfl, Below.refl _ _, rfl⟩
          · intro xs W hW hn
            simp [flowNeeds, Region.binds] at hn
            simp only [flowAct, zwc, zwn]
            try simp only [hn]
            go_wp2_with (fail)
            exact ⟨rfl, _, rfl, Below.refl _ _, rfl⟩
          · intro xs W hW hn
            simp [flowNeeds, Region.binds] at hn
            simp only [flowAct, zwc, zwn]
            try simp only [hn]
            go_wp2_with (fail)
            exact ⟨rfl, _, rfl, Below.refl _ _, rfl⟩
          · intro xs W hW hn
            simp [flowNeeds, Region.binds] at hn
            simp only [flowAct, zwc, zwn]
            try simp only [hn]
            go_wp2_with (fail)
            exact ⟨rfl, _, rfl, Below.refl _ _, rfl⟩
          · intro xs W hW hn
            simp [flowNeeds, Region.binds] at hn
            simp only [flowAct, zwc, zwn]
            try simp only [hn]
            go_wp2_with (fail)
            exact ⟨rfl, _, rfl, Below.refl _ _, rfl⟩
          · intro xs W hW hn
            simp [flowNeeds, Region.binds] at hn
            simp only [flowAct, zwc, zwn]
            try simp only [hn]
            go_wp2_with (fail)
            exact ⟨rfl, _, rfl, Below.refl _ _, rfl⟩
          · intro xs W hW hn
            simp [flowNeeds, Region.binds] at hn
            simp only [flowAct, zwc, zwn]
            try simp only [hn]
            go_wp2_with (fail)
            exact ⟨rfl, _, rfl, Below.refl _ _, rfl⟩
          · intro xs W hW hn
            simp [flowNeeds, Region.binds] at hn
            simp only [flowAct, zwc, zwn]
            try simp only [hn]
            go_wp2_with (fail)
            exact ⟨rfl, _, rfl, Below.refl _ _, rfl⟩
          · intro xs W hW hn
            simp [flowNeeds, Region.binds] at hn
            simp only [flowAct, zwc, zwn]
            try simp only [hn]
            go_wp2_with (fail)
            exact ⟨rfl, _, rfl, Below.refl _ _, rfl⟩
          · intro xs W hW hn
            simp [flowNeeds, Region.binds] at hn
            simp only [flowAct, zwc, zwn]
            try simp only [hn]
            go_wp2_with (fail)
            exact ⟨rfl, _, rfl, Below.refl _ _, rfl⟩
          · intro xs W hW hn
            simp [flowNeeds, Region.binds] at hn
            simp only [flowAct, zwc, zwn]
            try simp only [hn]
            go_wp2_with (fail)
            exact ⟨rfl, _, rfl, Below.refl _ _, rfl⟩
          · intro xs W hW hn
            simp [flowNeeds, Region.binds] at hn
            simp only [flowAct, zwc, zwn]
            try simp only [hn]
            go_wp2_with (fail)
            exact ⟨rfl, _, rfl, Below.refl _ _, rfl⟩
          · intro xs W hW hn
            simp [flowNeeds, Region.binds] at hn
            simp only [flowAct, zwc, zwn]
            try simp only [hn]
            go_wp2_with (fail)
            exact ⟨rfl, _, rfl, Below.refl _ _, rfl⟩
          · intro xs W hW hn
            simp [flowNeeds, Region.binds] at hn
            simp only [flowAct, zwc, zwn]
            try simp only [hn]
            go_wp2_with (fail)
            exact ⟨rfl, _, rfl, Below.refl _ _, rfl⟩
          · intro xs W hW hn
            simp [flowNeeds, Region.binds] at hn
            simp only [flowAct, zwc, zwn]
            try simp only [hn]
            go_wp2_with (fail)
            exact ⟨rfl, _, rfl, Below.refl _ _, rfl⟩
          · intro xs W hW hn
            simp [flowNeeds, Region.binds] at hn
            simp only [flowAct, zwc, zwn]
            try simp only [hn]
            go_wp2_with (fail)
            exact ⟨rfl, _, rfl, Below.refl _ _, rfl⟩
          · intro xs W hW hn
            simp [flowNeeds, Region.binds] at hn
            simp only [flowAct, zwc, zwn]
            try simp only [hn]
            go_wp2_with (fail)
            exact ⟨rfl, _, rfl, Below.refl _ _, rfl⟩
          · intro xs W hW hn
            simp [flowNeeds, Region.binds] at hn
            simp only [flowAct, zwc, zwn]
            try simp only [hn]
            go_wp2_with (fail)
            exact ⟨rfl, _, rfl, Below.refl _ _, rfl⟩
          · intro xs W hW hn
            simp [flowNeeds, Region.binds] at hn
            simp only [flowAct, zwc, zwn]
            try simp only [hn]
            go_wp2_with (fail)
            exact ⟨rfl, _, rfl, Below.refl _ _, rfl⟩
          · intro xs W hW hn
            simp [flowNeeds, Region.binds] at hn
            simp only [flowAct, zwc, zwn]
            try simp only [hn]
            go_wp2_with (fail)
            exact ⟨rfl, _, rfl, Below.refl _ _, rfl⟩
          · intro xs W hW hn
            simp [flowNeeds, Region.binds] at hn
            simp only [flowAct, zwc, zwn]
            try simp only [hn]
            go_wp2_with (fail)
            exact ⟨rfl, _, rfl, Below.refl _ _, rfl⟩
          · intro xs W hW hn
            simp [flowNeeds, Region.binds] at hn
            simp only [flowAct, zwc, zwn]
            try simp only [hn]
            go_wp2_with (fail)
            exact ⟨rfl, _, rfl, Below.refl _ _, rfl⟩
          · intro xs W hW hn
            simp [flowNeeds, Region.binds] at hn
            simp only [flowAct, zwc, zwn]
            try simp only [hn]
            go_wp2_with (fail)
            exact ⟨rfl, _, rfl, Below.refl _ _, rfl⟩
        · intro xs W hW hall
          simp only [flowAll, and_true, Nat.zero_add, Nat.reduceAdd] at hall
          obtain ⟨-,-,-,-,-,-,-,-,-,-,-,-,-,-,-,-,-,-,-,-,-,-, e22⟩ := hall
          simp only [flowAct, zwc, zwn]
          simp only [e22]
          go_wp2
          go_ret
          exact ⟨by rw [HRR.out]; rfl, HB1.out.trans (hW.mono HB1.out.size)⟩
  · by_cases h2 : site = 2
    · subst h2
      have HRR0 := Lib.hid (show goodHeadS 2 seq n s a b = ((sgood n s && (s == 2)) && (vgood a b && (decide (1 ≤ seq) && (seq == b)))) from by simp [goodHeadS])
      obtain ⟨r, hr⟩ : ∃ r, goodHeadS 2 seq n s a b = r := ⟨_, rfl⟩
      rw [hr] at HRR0 ⊢
      have hsg := fun W => sgood_c n s W
      have hvg := fun W => vgood_c a b W
      obtain ⟨SG, hSG⟩ : ∃ z, sgood n s = z := ⟨_, rfl⟩
      obtain ⟨VG, hVG⟩ : ∃ z, vgood a b = z := ⟨_, rfl⟩
      rw [hSG, hVG] at HRR0
      simp only [hSG] at hsg
      simp only [hVG] at hvg
      have HSG := Lib.hid hsg
      have HVG := Lib.hid hvg
      clear hr hSG hVG hsg hvg
      cases SG with
      | false =>
        have HRR := Lib.hid (show r = false by rw [HRR0.out]; rfl)
        clear HRR0
        go_enter Try.func132, Try.ntmps132
        go_upto_region 4 with (go_at_call 143; (with_reducible refine (HSG.out _).mono ?_); rintro e9 w2 ⟨rfl, hb2⟩)
        have HB1 := Lib.hid (HB0.out.trans (hb2.mono HB0.out.size))
        have HCW := Lib.hid (fun W (h : Below w2.heap.size w2 W) => HC0.out W (hb2.trans (h.mono hb2.size)))
        clear hb2 HB0 HC0 HSG c0 c1 c2 c3 c4 c5
        obtain ⟨B, hB⟩ : ∃ z, w.heap.size = z := ⟨_, rfl⟩
        simp only [hB] at HCW ⊢
        have HBe := Lib.hid hB
        clear hB
        refine wp_region_flow [none,none, some 22, none,none,none,none,none,none,none,none,none,none,none,none,none,none,none,none,none,none,none,none, some 0, some 1, some 2, some 3, some 4, some 5, some 6, some 7, some 8, some 9, some 10, some 11, some 12, some 13, some 14, some 15, some 16, some 17, some 18, some 19, some 20, some 21] (fun i => [undef,undef,undef,undef,undef,undef,undef,undef,undef,undef,undef,undef,undef,undef,undef,undef,undef,undef,undef,undef,undef,undef, .bool false].getD i undef) [(fun v _ => v = .bool false), (fun v _ => v = .bool false), (fun v _ => v = undef), (fun v _ => v = undef), (fun v _ => v = undef), (fun v _ => v = .bool false), (fun v _ => v = .bool false), (fun v _ => v = undef), (fun v _ => v = undef), (fun v _ => v = undef), (fun v _ => v = .bool false), (fun v _ => v = .bool false), (fun v _ => v = undef), (fun v _ => v = undef), (fun v _ => v = undef), (fun v _ => v = undef), (fun v _ => v = undef), (fun v _ => v = undef), (fun v _ => v = undef), (fun v _ => v = undef), (fun v _ => v = undef), (fun v _ => v = .bool false), (fun v _ => v = .bool false)] (by kernel_rfl) (by kernel_rfl) rfl rfl rfl ?_ ?_ ?_
        · intro g hg v X Y hX hY hv
          simp only [List.mem_cons, List.not_mem_nil, or_false] at hg
          rcases hg with rfl | rfl | rfl | rfl | rfl | rfl | rfl | rfl | rfl | rfl | rfl | rfl | rfl | rfl | rfl | rfl | rfl | rfl | rfl | rfl | rfl | rfl | rfl
          all_goals first
            | exact hv
            | exact hv.kept hY
        · simp only [flowOps, and_true]
          refine ⟨?_,?_,?_,?_,?_,?_,?_,?_,?_,?_,?_,?_,?_,?_,?_,?_,?_,?_,?_,?_,?_,?_,?_⟩
          · intro xs W hW hn
            simp only [flowAct, zwc, zwn]
            go_wp2_with (fail)
            exact ⟨rfl, _, rfl, Below.refl _ _, rfl⟩
          · intro xs W hW hn
            simp [flowNeeds, Region.binds] at hn
            simp only [flowAct, zwc, zwn]
            try simp only [hn]
            go_wp2_with (fail)
            exact ⟨rfl, _, rfl, Below.refl _ _, rfl⟩
          · intro xs W hW hn
            simp [flowNeeds, Region.binds] at hn
            simp only [flowAct, zwc, zwn]
            try simp only [hn]
            go_wp2_with (fail)
            exact ⟨rfl, _, rfl, Below.refl _ _, rfl⟩
          · intro xs W hW hn
            simp [flowNeeds, Region.binds] at hn
            simp only [flowAct, zwc, zwn]
            try simp only [hn]
            go_wp2_with (fail)
            exact ⟨rfl, _, rfl, Below.refl _ _, rfl⟩
          · intro xs W hW hn
            simp [flowNeeds, Region.binds] at hn
            simp only [flowAct, zwc, zwn]
            try simp only [hn]
            go_wp2_with (fail)
            exact ⟨rfl, _, rfl, Below.refl _ _, rfl⟩
          · intro xs W hW hn
            simp [flowNeeds, Region.binds] at hn
            simp only [flowAct, zwc, zwn]
            try simp only [hn]
            go_wp2_with (fail)
            exact ⟨rfl, _, rfl, Below.refl _ _, rfl⟩
          · intro xs W hW hn
            simp [flowNeeds, Region.binds] at hn
            simp only [flowAct, zwc, zwn]
            try simp only [hn]
            go_wp2_with (fail)
            exact ⟨rfl, _, rfl, Below.refl _ _, rfl⟩
          · intro xs W hW hn
            simp [flowNeeds, Region.binds] at hn
            simp only [flowAct, zwc, zwn]
            try simp only [hn]
            go_wp2_with (fail)
            exact ⟨rfl, _, rfl, Below.refl _ _, rfl⟩
          · intro xs W hW hn
            simp [flowNeeds, Region.binds] at hn
            simp only [flowAct, zwc, zwn]
            try simp only [hn]
            go_wp2_with (fail)
            exact ⟨rfl, _, rfl, Below.refl _ _, rfl⟩
          · intro xs W hW hn
            simp [flowNeeds, Region.binds] at hn
            simp only [flowAct, zwc, zwn]
            try simp only [hn]
            go_wp2_with (fail)
            exact ⟨rfl, _, rfl, Below.refl _ _, rfl⟩
          · intro xs W hW hn
            simp [flowNeeds, Region.binds] at hn
            simp only [flowAct, zwc, zwn]
            try simp only [hn]
            go_wp2_with (fail)
            exact ⟨rfl, _, rfl, Below.refl _ _, rfl⟩
          · intro xs W hW hn
            simp [flowNeeds, Region.binds] at hn
            simp only [flowAct, zwc, zwn]
            try simp only [hn]
            go_wp2_with (fail)
            exact ⟨rfl, _, rfl, Below.refl _ _, rfl⟩
          · intro xs W hW hn
            simp [flowNeeds, Region.binds] at hn
            simp only [flowAct, zwc, zwn]
            try simp only [hn]
            go_wp2_with (fail)
            exact ⟨rfl, _, rfl, Below.refl _ _, rfl⟩
          · intro xs W hW hn
            simp [flowNeeds, Region.binds] at hn
            simp only [flowAct, zwc, zwn]
            try simp only [hn]
            go_wp2_with (fail)
            exact ⟨rfl, _, rfl, Below.refl _ _, rfl⟩
          · intro xs W hW hn
            simp [flowNeeds, Region.binds] at hn
            simp only [flowAct, zwc, zwn]
            try simp only [hn]
            go_wp2_with (fail)
            exact ⟨rfl, _, rfl, Below.refl _ _, rfl⟩
          · intro xs W hW hn
            simp [flowNeeds, Region.binds] at hn
            simp only [flowAct, zwc, zwn]
            try simp only [hn]
            go_wp2_with (fail)
            exact ⟨rfl, _, rfl, Below.refl _ _, rfl⟩
          · intro xs W hW hn
            simp [flowNeeds, Region.binds] at hn
            simp only [flowAct, zwc, zwn]
            try simp only [hn]
            go_wp2_with (fail)
            exact ⟨rfl, _, rfl, Below.refl _ _, rfl⟩
          · intro xs W hW hn
            simp [flowNeeds, Region.binds] at hn
            simp only [flowAct, zwc, zwn]
            try simp only [hn]
            go_wp2_with (fail)
            exact ⟨rfl, _, rfl, Below.refl _ _, rfl⟩
          · intro xs W hW hn
            simp [flowNeeds, Region.binds] at hn
            simp only [flowAct, zwc, zwn]
            try simp only [hn]
            go_wp2_with (fail)
            exact ⟨rfl, _, rfl, Below.refl _ _, rfl⟩
          · intro xs W hW hn
            simp [flowNeeds, Region.binds] at hn
            simp only [flowAct, zwc, zwn]
            try simp only [hn]
            go_wp2_with (fail)
            exact ⟨rfl, _, rfl, Below.refl _ _, rfl⟩
          · intro xs W hW hn
            simp [flowNeeds, Region.binds] at hn
            simp only [flowAct, zwc, zwn]
            try simp only [hn]
            go_wp2_with (fail)
            exact ⟨rfl, _, rfl, Below.refl _ _, rfl⟩
          · intro xs W hW hn
            simp [flowNeeds, Region.binds] at hn
            simp only [flowAct, zwc, zwn]
            try simp only [hn]
            go_wp2_with (fail)
            exact ⟨rfl, _, rfl, Below.refl _ _, rfl⟩
          · intro xs W hW hn
            simp [flowNeeds, Region.binds] at hn
            simp only [flowAct, zwc, zwn]
            try simp only [hn]
            go_wp2_with (fail)
            exact ⟨rfl, _, rfl, Below.refl _ _, rfl⟩
        · intro xs W hW hall
          simp only [flowAll, and_true, Nat.zero_add, Nat.reduceAdd] at hall
          obtain ⟨-,-,-,-,-,-,-,-,-,-,-,-,-,-,-,-,-,-,-,-,-,-, e22⟩ := hall
          simp only [flowAct, zwc, zwn]
          simp only [e22]
          go_wp2
          go_ret
          exact ⟨by rw [HRR.out]; rfl, HB1.out.trans (hW.mono HB1.out.size)⟩
      | true =>
        by_cases hss : s = 2
        · have hsb : (s == 2) = true := by simpa using hss
          subst hss
          rw [hsb] at HRR0
          clear hsb
          go_enter Try.func132, Try.ntmps132
          go_upto_region 4 with (go_at_call 143; (with_reducible refine (HSG.out _).mono ?_); rintro e9 w2 ⟨rfl, hb2⟩; obtain ⟨c0, c1, c2, c3, c4, c5⟩ := HC0.out w2 hb2)
          have HB1 := Lib.hid (HB0.out.trans (hb2.mono HB0.out.size))
          have HCW := Lib.hid (fun W (h : Below w2.heap.size w2 W) => HC0.out W (hb2.trans (h.mono hb2.size)))
          clear hb2 HB0 HC0 HSG c0 c1 c2 c3 c4 c5
          obtain ⟨B, hB⟩ : ∃ z, w.heap.size = z := ⟨_, rfl⟩
          simp only [hB] at HCW ⊢
          have HBe := Lib.hid hB
          clear hB
          cases VG with
          | false =>
            have HRR := Lib.hid (show r = false by rw [HRR0.out]; rfl)
            clear HRR0
            refine wp_region_flow [none,none, some 22, none,none,none,none,none,none,none,none,none,none,none,none,none,none,none,none,none,none,none,none, some 0, some 1, some 2, some 3, some 4, some 5, some 6, some 7, some 8, some 9, some 10, some 11, some 12, some 13, some 14, some 15, some 16, some 17, some 18, some 19, some 20, some 21] (fun i => [undef,undef,undef,undef,undef,undef,undef,undef,undef,undef,undef,undef,undef,undef,undef,undef,undef,undef,undef,undef,undef,undef, .bool false].getD i undef) [(fun v _ => v = .bool true), (fun v _ => v = .bool true), (fun v _ => v = .pointer (some ⟨B, 4, none⟩)), (fun v _ => v = .agg #[.int .i64 a, .int .i64 b]), (fun v _ => v = .bool false), (fun v _ => v = .bool false), (fun v _ => v = .bool false), (fun v _ => v = undef), (fun v _ => v = undef), (fun v _ => v = undef), (fun v _ => v = .bool false), (fun v _ => v = .bool false), (fun v _ => v = undef), (fun v _ => v = undef), (fun v _ => v = undef), (fun v _ => v = undef), (fun v _ => v = undef), (fun v _ => v = undef), (fun v _ => v = undef), (fun v _ => v = undef), (fun v _ => v = undef), (fun v _ => v = .bool false), (fun v _ => v = .bool false)] (by kernel_rfl) (by kernel_rfl) rfl rfl rfl ?_ ?_ ?_
            · intro g hg v X Y hX hY hv
              simp only [List.mem_cons, List.not_mem_nil, or_false] at hg
              rcases hg with rfl | rfl | rfl | rfl | rfl | rfl | rfl | rfl | rfl | rfl | rfl | rfl | rfl | rfl | rfl | rfl | rfl | rfl | rfl | rfl | rfl | rfl | rfl
              all_goals first
                | exact hv
                | exact hv.kept hY
            · simp only [flowOps, and_true]
              refine ⟨?_,?_,?_,?_,?_,?_,?_,?_,?_,?_,?_,?_,?_,?_,?_,?_,?_,?_,?_,?_,?_,?_,?_⟩
              · intro xs W hW hn
                simp only [flowAct, zwc, zwn]
                go_wp2_with (fail)
                exact ⟨rfl, _, rfl, Below.refl _ _, rfl⟩
              · intro xs W hW hn
                simp [flowNeeds, Region.binds] at hn
                simp only [flowAct, zwc, zwn]
                try simp only [hn]
                go_wp2_with (fail)
                exact ⟨rfl, _, rfl, Below.refl _ _, rfl⟩
              · intro xs W hW hn
                simp [flowNeeds, Region.binds] at hn
                simp only [flowAct, zwc, zwn]
                try simp only [hn]
                go_wp2_with (fail)
                exact ⟨rfl, _, rfl, Below.refl _ _, rfl⟩
              · intro xs W hW hn
                obtain ⟨c0, c1, c2, c3, c4, c5⟩ := HCW.out W hW
                simp [flowNeeds, Region.binds] at hn
                simp only [flowAct, zwc, zwn]
                try simp only [hn]
                go_wp2_with (fail)
                exact ⟨rfl, _, rfl, Below.refl _ _, rfl⟩
              · intro xs W hW hn
                simp [flowNeeds, Region.binds] at hn
                simp only [flowAct, zwc, zwn]
                try simp only [hn]
                go_wp2_with (go_at_call 135; (with_reducible refine (HVG.out _).mono ?_); rintro e9 w9 ⟨rfl, hb9⟩)
                exact ⟨rfl, _, rfl, hb9, rfl⟩
              · intro xs W hW hn
                simp [flowNeeds, Region.binds] at hn
                simp only [flowAct, zwc, zwn]
                try simp only [hn]
                go_wp2_with (fail)
                exact ⟨rfl, _, rfl, Below.refl _ _, rfl⟩
              · intro xs W hW hn
                simp [flowNeeds, Region.binds] at hn
                simp only [flowAct, zwc, zwn]
                try simp only [hn]
                go_wp2_with (fail)
                exact ⟨rfl, _, rfl, Below.refl _ _, rfl⟩
              · intro xs W hW hn
                simp [flowNeeds, Region.binds] at hn
                simp only [flowAct, zwc, zwn]
                try simp only [hn]
                go_wp2_with (fail)
                exact ⟨rfl, _, rfl, Below.refl _ _, rfl⟩
              · intro xs W hW hn
                simp [flowNeeds, Region.binds] at hn
                simp only [flowAct, zwc, zwn]
                try simp only [hn]
                go_wp2_with (fail)
                exact ⟨rfl, _, rfl, Below.refl _ _, rfl⟩
              · intro xs W hW hn
                simp [flowNeeds, Region.binds] at hn
                simp only [flowAct, zwc, zwn]
                try simp only [hn]
                go_wp2_with (fail)
                exact ⟨rfl, _, rfl, Below.refl _ _, rfl⟩
              · intro xs W hW hn
                simp [flowNeeds, Region.binds] at hn
                simp only [flowAct, zwc, zwn]
                try simp only [hn]
                go_wp2_with (fail)
                exact ⟨rfl, _, rfl, Below.refl _ _, rfl⟩
              · intro xs W hW hn
                simp [flowNeeds, Region.binds] at hn
                simp only [flowAct, zwc, zwn]
                try simp only [hn]
                go_wp2_with (fail)
                exact ⟨rfl, _, rfl, Below.refl _ _, rfl⟩
              · intro xs W hW hn
                simp [flowNeeds, Region.binds] at hn
                simp only [flowAct, zwc, zwn]
                try simp only [hn]
                go_wp2_with (fail)
                exact ⟨rfl, _, rfl, Below.refl _ _, rfl⟩
              · intro xs W hW hn
                simp [flowNeeds, Region.binds] at hn
                simp only [flowAct, zwc, zwn]
                try simp only [hn]
                go_wp2_with (fail)
                exact ⟨rfl, _, rfl, Below.refl _ _, rfl⟩
              · intro xs W hW hn
                simp [flowNeeds, Region.binds] at hn
                simp only [flowAct, zwc, zwn]
                try simp only [hn]
                go_wp2_with (fail)
                exact ⟨rfl, _, rfl, Below.refl _ _, rfl⟩
              · intro xs W hW hn
                simp [flowNeeds, Region.binds] at hn
                simp only [flowAct, zwc, zwn]
                try simp only [hn]
                go_wp2_with (fail)
                exact ⟨rfl, _, rfl, Below.refl _ _, rfl⟩
              · intro xs W hW hn
                simp [flowNeeds, Region.binds] at hn
                simp only [flowAct, zwc, zwn]
                try simp only [hn]
                go_wp2_with (fail)
                exact ⟨rfl, _, rfl, Below.refl _ _, rfl⟩
              · intro xs W hW hn
                simp [flowNeeds, Region.binds] at hn
                simp only [flowAct, zwc, zwn]
                try simp only [hn]
                go_wp2_with (fail)
                exact ⟨rfl, _, rfl, Below.refl _ _, rfl⟩
              · intro xs W hW hn
                simp [flowNeeds, Region.binds] at hn
                simp only [flowAct, zwc, zwn]
                try simp only [hn]
                go_wp2_with (fail)
                exact ⟨rfl, _, rfl, Below.refl _ _, rfl⟩
              · intro xs W hW hn
                simp [flowNeeds, Region.binds] at hn
                simp only [flowAct, zwc, zwn]
                try simp only [hn]
                go_wp2_with (fail)
                exact ⟨rfl, _, rfl, Below.refl _ _, rfl⟩
              · intro xs W hW hn
                simp [flowNeeds, Region.binds] at hn
                simp only [flowAct, zwc, zwn]
                try simp only [hn]
                go_wp2_with (fail)
                exact ⟨rfl, _, rfl, Below.refl _ _, rfl⟩
              · intro xs W hW hn
                simp [flowNeeds, Region.binds] at hn
                simp only [flowAct, zwc, zwn]
                try simp only [hn]
                go_wp2_with (fail)
                exact ⟨rfl, _, rfl, Below.refl _ _, rfl⟩
              · intro xs W hW hn
                simp [flowNeeds, Region.binds] at hn
                simp only [flowAct, zwc, zwn]
                try simp only [hn]
                go_wp2_with (fail)
                exact ⟨rfl, _, rfl, Below.refl _ _, rfl⟩
            · intro xs W hW hall
              simp only [flowAll, and_true, Nat.zero_add, Nat.reduceAdd] at hall
              obtain ⟨-,-,-,-,-,-,-,-,-,-,-,-,-,-,-,-,-,-,-,-,-,-, e22⟩ := hall
              simp only [flowAct, zwc, zwn]
              simp only [e22]
              go_wp2
              go_ret
              exact ⟨by rw [HRR.out]; rfl, HB1.out.trans (hW.mono HB1.out.size)⟩
          | true =>
            by_cases hq : 1 ≤ seq
            · have HRR := Lib.hid (show r = (seq == b) by rw [HRR0.out]; simp [hq])
              clear HRR0
              refine wp_region_flow [none,none, some 22, none,none,none,none,none,none,none,none,none,none,none,none,none,none,none,none,none,none,none,none, some 0, some 1, some 2, some 3, some 4, some 5, some 6, some 7, some 8, some 9, some 10, some 11, some 12, some 13, some 14, some 15, some 16, some 17, some 18, some 19, some 20, some 21] (fun i => [undef,undef,undef,undef,undef,undef,undef,undef,undef,undef,undef,undef,undef,undef,undef,undef,undef,undef,undef,undef,undef,undef, .bool false].getD i undef) [(fun v _ => v = .bool true), (fun v _ => v = .bool true), (fun v _ => v = .pointer (some ⟨B, 4, none⟩)), (fun v _ => v = .agg #[.int .i64 a, .int .i64 b]), (fun v _ => v = .bool true), (fun v _ => v = .bool true), (fun v _ => v = .bool true), (fun v _ => v = .pointer (some ⟨B, 1, none⟩)), (fun v _ => v = .int .i64 seq), (fun v _ => v = .bool true), (fun v _ => v = .bool true), (fun v _ => v = .bool true), (fun v _ => v = .pointer (some ⟨B, 1, none⟩)), (fun v _ => v = .int .i64 seq), (fun v _ => v = .pointer (some ⟨B, 0, none⟩)), (fun v _ => v = .int .i64 2), (fun v _ => v = .int .i64 1), (fun v _ => v = .pointer (some ⟨B, 4, none⟩)), (fun v _ => v = .pointer (some ⟨B, 5, none⟩)), (fun v _ => v = .int .i64 b), (fun v _ => v = .bool (seq == b)), (fun v _ => v = .bool (seq == b)), (fun v _ => v = .bool (seq == b))] (by kernel_rfl) (by kernel_rfl) rfl rfl rfl ?_ ?_ ?_
              · intro g hg v X Y hX hY hv
                simp only [List.mem_cons, List.not_mem_nil, or_false] at hg
                rcases hg with rfl | rfl | rfl | rfl | rfl | rfl | rfl | rfl | rfl | rfl | rfl | rfl | rfl | rfl | rfl | rfl | rfl | rfl | rfl | rfl | rfl | rfl | rfl
                all_goals first
                  | exact hv
                  | exact hv.kept hY
              · simp only [flowOps, and_true]
                refine ⟨?_,?_,?_,?_,?_,?_,?_,?_,?_,?_,?_,?_,?_,?_,?_,?_,?_,?_,?_,?_,?_,?_,?_⟩
                · intro xs W hW hn
                  simp only [flowAct, zwc, zwn]
                  go_wp2_with (fail)
                  exact ⟨rfl, _, rfl, Below.refl _ _, rfl⟩
                · intro xs W hW hn
                  simp [flowNeeds, Region.binds] at hn
                  simp only [flowAct, zwc, zwn]
                  try simp only [hn]
                  go_wp2_with (fail)
                  exact ⟨rfl, _, rfl, Below.refl _ _, rfl⟩
                · intro xs W hW hn
                  simp [flowNeeds, Region.binds] at hn
                  simp only [flowAct, zwc, zwn]
                  try simp only [hn]
                  go_wp2_with (fail)
                  exact ⟨rfl, _, rfl, Below.refl _ _, rfl⟩
                · intro xs W hW hn
                  obtain ⟨c0, c1, c2, c3, c4, c5⟩ := HCW.out W hW
                  simp [flowNeeds, Region.binds] at hn
                  simp only [flowAct, zwc, zwn]
                  try simp only [hn]
                  go_wp2_with (fail)
                  exact ⟨rfl, _, rfl, Below.refl _ _, rfl⟩
                · intro xs W hW hn
                  simp [flowNeeds, Region.binds] at hn
                  simp only [flowAct, zwc, zwn]
                  try simp only [hn]
                  go_wp2_with (go_at_call 135; (with_reducible refine (HVG.out _).mono ?_); rintro e9 w9 ⟨rfl, hb9⟩)
                  exact ⟨rfl, _, rfl, hb9, rfl⟩
                · intro xs W hW hn
                  simp [flowNeeds, Region.binds] at hn
                  simp only [flowAct, zwc, zwn]
                  try simp only [hn]
                  go_wp2_with (fail)
                  exact ⟨rfl, _, rfl, Below.refl _ _, rfl⟩
                · intro xs W hW hn
                  simp [flowNeeds, Region.binds] at hn
                  simp only [flowAct, zwc, zwn]
                  try simp only [hn]
                  go_wp2_with (fail)
                  exact ⟨rfl, _, rfl, Below.refl _ _, rfl⟩
                · intro xs W hW hn
                  simp [flowNeeds, Region.binds] at hn
                  simp only [flowAct, zwc, zwn]
                  try simp only [hn]
                  go_wp2_with (fail)
                  exact ⟨rfl, _, rfl, Below.refl _ _, rfl⟩
                · intro xs W hW hn
                  obtain ⟨c0, c1, c2, c3, c4, c5⟩ := HCW.out W hW
                  simp [flowNeeds, Region.binds] at hn
                  simp only [flowAct, zwc, zwn]
                  try simp only [hn]
                  go_wp2_with (fail)
                  exact ⟨rfl, _, rfl, Below.refl _ _, rfl⟩
                · intro xs W hW hn
                  simp [flowNeeds, Region.binds] at hn
                  simp only [flowAct, zwc, zwn]
                  try simp only [hn]
                  go_wp2_with (fail)
                  exact ⟨rfl, _, rfl, Below.refl _ _, by first | rfl | go_num | (simp; done)⟩
                · intro xs W hW hn
                  simp [flowNeeds, Region.binds] at hn
                  simp only [flowAct, zwc, zwn]
                  try simp only [hn]
                  go_wp2_with (fail)
                  exact ⟨rfl, _, rfl, Below.refl _ _, rfl⟩
                · intro xs W hW hn
                  simp [flowNeeds, Region.binds] at hn
                  simp only [flowAct, zwc, zwn]
                  try simp only [hn]
                  go_wp2_with (fail)
                  exact ⟨rfl, _, rfl, Below.refl _ _, rfl⟩
                · intro xs W hW hn
                  simp [flowNeeds, Region.binds] at hn
                  simp only [flowAct, zwc, zwn]
                  try simp only [hn]
                  go_wp2_with (fail)
                  exact ⟨rfl, _, rfl, Below.refl _ _, rfl⟩
                · intro xs W hW hn
                  obtain ⟨c0, c1, c2, c3, c4, c5⟩ := HCW.out W hW
                  simp [flowNeeds, Region.binds] at hn
                  simp only [flowAct, zwc, zwn]
                  try simp only [hn]
                  go_wp2_with (fail)
                  exact ⟨rfl, _, rfl, Below.refl _ _, rfl⟩
                · intro xs W hW hn
                  simp [flowNeeds, Region.binds] at hn
                  simp only [flowAct, zwc, zwn]
                  try simp only [hn]
                  go_wp2_with (fail)
                  exact ⟨rfl, _, rfl, Below.refl _ _, rfl⟩
                · intro xs W hW hn
                  obtain ⟨c0, c1, c2, c3, c4, c5⟩ := HCW.out W hW
                  simp [flowNeeds, Region.binds] at hn
                  simp only [flowAct, zwc, zwn]
                  try simp only [hn]
                  go_wp2_with (fail)
                  exact ⟨rfl, _, rfl, Below.refl _ _, rfl⟩
                · intro xs W hW hn
                  simp [flowNeeds, Region.binds] at hn
                  simp only [flowAct, zwc, zwn]
                  try simp only [hn]
                  go_wp2_with (fail)
                  exact ⟨rfl, _, rfl, Below.refl _ _, by first | rfl | go_num | (simp; done)⟩
                · intro xs W hW hn
                  simp [flowNeeds, Region.binds] at hn
                  simp only [flowAct, zwc, zwn]
                  try simp only [hn]
                  go_wp2_with (fail)
                  exact ⟨rfl, _, rfl, Below.refl _ _, rfl⟩
                · intro xs W hW hn
                  simp [flowNeeds, Region.binds] at hn
                  simp only [flowAct, zwc, zwn]
                  try simp only [hn]
                  go_wp2_with (fail)
                  exact ⟨rfl, _, rfl, Below.refl _ _, by first | rfl | go_num | (simp; done)⟩
                · intro xs W hW hn
                  obtain ⟨c0, c1, c2, c3, c4, c5⟩ := HCW.out W hW
                  simp [flowNeeds, Region.binds] at hn
                  simp only [flowAct, zwc, zwn]
                  try simp only [hn]
                  go_wp2_with (fail)
                  exact ⟨rfl, _, rfl, Below.refl _ _, rfl⟩
                · intro xs W hW hn
                  simp [flowNeeds, Region.binds] at hn
                  simp only [flowAct, zwc, zwn]
                  try simp only [hn]
                  go_wp2_with (fail)
                  exact ⟨rfl, _, rfl, Below.refl _ _, by first | rfl | go_num | (simp; done)⟩
                · intro xs W hW hn
                  simp [flowNeeds, Region.binds] at hn
                  simp only [flowAct, zwc, zwn]
                  try simp only [hn]
                  go_wp2_with (fail)
                  exact ⟨rfl, _, rfl, Below.refl _ _, rfl⟩
                · intro xs W hW hn
                  simp [flowNeeds, Region.binds] at hn
                  simp only [flowAct, zwc, zwn]
                  try simp only [hn]
                  go_wp2_with (fail)
                  exact ⟨rfl, _, rfl, Below.refl _ _, rfl⟩
              · intro xs W hW hall
                simp only [flowAll, and_true, Nat.zero_add, Nat.reduceAdd] at hall
                obtain ⟨-,-,-,-,-,-,-,-,-,-,-,-,-,-,-,-,-,-,-,-,-,-, e22⟩ := hall
                simp only [flowAct, zwc, zwn]
                simp only [e22]
                go_wp2
                go_ret
                exact ⟨by rw [HRR.out]; rfl, HB1.out.trans (hW.mono HB1.out.size)⟩
            · have HRR := Lib.hid (show r = false by rw [HRR0.out]; simp [hq])
              clear HRR0
              refine wp_region_flow [none,none, some 22, none,none,none,none,none,none,none,none,none,none,none,none,none,none,none,none,none,none,none,none, some 0, some 1, some 2, some 3, some 4, some 5, some 6, some 7, some 8, some 9, some 10, some 11, some 12, some 13, some 14, some 15, some 16, some 17, some 18, some 19, some 20, some 21] (fun i => [undef,undef,undef,undef,undef,undef,undef,undef,undef,undef,undef,undef,undef,undef,undef,undef,undef,undef,undef,undef,undef,undef, .bool false].getD i undef) [(fun v _ => v = .bool true), (fun v _ => v = .bool true), (fun v _ => v = .pointer (some ⟨B, 4, none⟩)), (fun v _ => v = .agg #[.int .i64 a, .int .i64 b]), (fun v _ => v = .bool true), (fun v _ => v = .bool true), (fun v _ => v = .bool true), (fun v _ => v = .pointer (some ⟨B, 1, none⟩)), (fun v _ => v = .int .i64 seq), (fun v _ => v = .bool false), (fun v _ => v = .bool false), (fun v _ => v = .bool false), (fun v _ => v = undef), (fun v _ => v = undef), (fun v _ => v = undef), (fun v _ => v = undef), (fun v _ => v = undef), (fun v _ => v = undef), (fun v _ => v = undef), (fun v _ => v = undef), (fun v _ => v = undef), (fun v _ => v = .bool false), (fun v _ => v = .bool false)] (by kernel_rfl) (by kernel_rfl) rfl rfl rfl ?_ ?_ ?_
              · intro g hg v X Y hX hY hv
                simp only [List.mem_cons, List.not_mem_nil, or_false] at hg
                rcases hg with rfl | rfl | rfl | rfl | rfl | rfl | rfl | rfl | rfl | rfl | rfl | rfl | rfl | rfl | rfl | rfl | rfl | rfl | rfl | rfl | rfl | rfl | rfl
                all_goals first
                  | exact hv
                  | exact hv.kept hY
              · simp only [flowOps, and_true]
                refine ⟨?_,?_,?_,?_,?_,?_,?_,?_,?_,?_,?_,?_,?_,?_,?_,?_,?_,?_,?_,?_,?_,?_,?_⟩
                · intro xs W hW hn
                  simp only [flowAct, zwc, zwn]
                  go_wp2_with (fail)
                  exact ⟨rfl, _, rfl, Below.refl _ _, rfl⟩
                · intro xs W hW hn
                  simp [flowNeeds, Region.binds] at hn
                  simp only [flowAct, zwc, zwn]
                  try simp only [hn]
                  go_wp2_with (fail)
                  exact ⟨rfl, _, rfl, Below.refl _ _, rfl⟩
                · intro xs W hW hn
                  simp [flowNeeds, Region.binds] at hn
                  simp only [flowAct, zwc, zwn]
                  try simp only [hn]
                  go_wp2_with (fail)
                  exact ⟨rfl, _, rfl, Below.refl _ _, rfl⟩
                · intro xs W hW hn
                  obtain ⟨c0, c1, c2, c3, c4, c5⟩ := HCW.out W hW
                  simp [flowNeeds, Region.binds] at hn
                  simp only [flowAct, zwc, zwn]
                  try simp only [hn]
                  go_wp2_with (fail)
                  exact ⟨rfl, _, rfl, Below.refl _ _, rfl⟩
                · intro xs W hW hn
                  simp [flowNeeds, Region.binds] at hn
                  simp only [flowAct, zwc, zwn]
                  try simp only [hn]
                  go_wp2_with (go_at_call 135; (with_reducible refine (HVG.out _).mono ?_); rintro e9 w9 ⟨rfl, hb9⟩)
                  exact ⟨rfl, _, rfl, hb9, rfl⟩
                · intro xs W hW hn
                  simp [flowNeeds, Region.binds] at hn
                  simp only [flowAct, zwc, zwn]
                  try simp only [hn]
                  go_wp2_with (fail)
                  exact ⟨rfl, _, rfl, Below.refl _ _, rfl⟩
                · intro xs W hW hn
                  simp [flowNeeds, Region.binds] at hn
                  simp only [flowAct, zwc, zwn]
                  try simp only [hn]
                  go_wp2_with (fail)
                  exact ⟨rfl, _, rfl, Below.refl _ _, rfl⟩
                · intro xs W hW hn
                  simp [flowNeeds, Region.binds] at hn
                  simp only [flowAct, zwc, zwn]
                  try simp only [hn]
                  go_wp2_with (fail)
                  exact ⟨rfl, _, rfl, Below.refl _ _, rfl⟩
                · intro xs W hW hn
                  obtain ⟨c0, c1, c2, c3, c4, c5⟩ := HCW.out W hW
                  simp [flowNeeds, Region.binds] at hn
                  simp only [flowAct, zwc, zwn]
                  try simp only [hn]
                  go_wp2_with (fail)
                  exact ⟨rfl, _, rfl, Below.refl _ _, rfl⟩
                · intro xs W hW hn
                  simp [flowNeeds, Region.binds] at hn
                  simp only [flowAct, zwc, zwn]
                  try simp only [hn]
                  go_wp2_with (fail)
                  exact ⟨rfl, _, rfl, Below.refl _ _, by first | rfl | go_num | (simp; done)⟩
                · intro xs W hW hn
                  simp [flowNeeds, Region.binds] at hn
                  simp only [flowAct, zwc, zwn]
                  try simp only [hn]
                  go_wp2_with (fail)
                  exact ⟨rfl, _, rfl, Below.refl _ _, rfl⟩
                · intro xs W hW hn
                  simp [flowNeeds, Region.binds] at hn
                  simp only [flowAct, zwc, zwn]
                  try simp only [hn]
                  go_wp2_with (fail)
                  exact ⟨rfl, _, rfl, Below.refl _ _, rfl⟩
                · intro xs W hW hn
                  simp [flowNeeds, Region.binds] at hn
                  simp only [flowAct, zwc, zwn]
                  try simp only [hn]
                  go_wp2_with (fail)
                  exact ⟨rfl, _, rfl, Below.refl _ _, rfl⟩
                · intro xs W hW hn
                  simp [flowNeeds, Region.binds] at hn
                  simp only [flowAct, zwc, zwn]
                  try simp only [hn]
                  go_wp2_with (fail)
                  exact ⟨rfl, _, rfl, Below.refl _ _, rfl⟩
                · intro xs W hW hn
                  simp [flowNeeds, Region.binds] at hn
                  simp only [flowAct, zwc, zwn]
                  try simp only [hn]
                  go_wp2_with (fail)
                  exact ⟨rfl, _, rfl, Below.refl _ _, rfl⟩
                · intro xs W hW hn
                  simp [flowNeeds, Region.binds] at hn
                  simp only [flowAct, zwc, zwn]
                  try simp only [hn]
                  go_wp2_with (fail)
                  exact ⟨rfl, _, rfl, Below.refl _ _, rfl⟩
                · intro xs W hW hn
                  simp [flowNeeds, Region.binds] at hn
                  simp only [flowAct, zwc, zwn]
                  try simp only [hn]
                  go_wp2_with (fail)
                  exact ⟨rfl, _, rfl, Below.refl _ _, rfl⟩
                · intro xs W hW hn
                  simp [flowNeeds, Region.binds] at hn
                  simp only [flowAct, zwc, zwn]
                  try simp only [hn]
                  go_wp2_with (fail)
                  exact ⟨rfl, _, rfl, Below.refl _ _, rfl⟩
                · intro xs W hW hn
                  simp [flowNeeds, Region.binds] at hn
                  simp only [flowAct, zwc, zwn]
                  try simp only [hn]
                  go_wp2_with (fail)
                  exact ⟨rfl, _, rfl, Below.refl _ _, rfl⟩
                · intro xs W hW hn
                  simp [flowNeeds, Region.binds] at hn
                  simp only [flowAct, zwc, zwn]
                  try simp only [hn]
                  go_wp2_with (fail)
                  exact ⟨rfl, _, rfl, Below.refl _ _, rfl⟩
                · intro xs W hW hn
                  simp [flowNeeds, Region.binds] at hn
                  simp only [flowAct, zwc, zwn]
                  try simp only [hn]
                  go_wp2_with (fail)
                  exact ⟨rfl, _, rfl, Below.refl _ _, rfl⟩
                · intro xs W hW hn
                  simp [flowNeeds, Region.binds] at hn
                  simp only [flowAct, zwc, zwn]
                  try simp only [hn]
                  go_wp2_with (fail)
                  exact ⟨rfl, _, rfl, Below.refl _ _, rfl⟩
                · intro xs W hW hn
                  simp [flowNeeds, Region.binds] at hn
                  simp only [flowAct, zwc, zwn]
                  try simp only [hn]
                  go_wp2_with (fail)
                  exact ⟨rfl, _, rfl, Below.refl _ _, rfl⟩
              · intro xs W hW hall
                simp only [flowAll, and_true, Nat.zero_add, Nat.reduceAdd] at hall
                obtain ⟨-,-,-,-,-,-,-,-,-,-,-,-,-,-,-,-,-,-,-,-,-,-, e22⟩ := hall
                simp only [flowAct, zwc, zwn]
                simp only [e22]
                go_wp2
                go_ret
                exact ⟨by rw [HRR.out]; rfl, HB1.out.trans (hW.mono HB1.out.size)⟩
        · have hsb : (s == 2) = false := by simpa using hss
          have HRR := Lib.hid (show r = false by rw [HRR0.out, hsb]; rfl)
          clear HRR0
          go_enter Try.func132, Try.ntmps132
          go_upto_region 4 with (go_at_call 143; (with_reducible refine (HSG.out _).mono ?_); rintro e9 w2 ⟨rfl, hb2⟩; obtain ⟨c0, c1, c2, c3, c4, c5⟩ := HC0.out w2 hb2)
          have HB1 := Lib.hid (HB0.out.trans (hb2.mono HB0.out.size))
          have HCW := Lib.hid (fun W (h : Below w2.heap.size w2 W) => HC0.out W (hb2.trans (h.mono hb2.size)))
          clear hb2 HB0 HC0 HSG c0 c1 c2 c3 c4 c5
          obtain ⟨B, hB⟩ : ∃ z, w.heap.size = z := ⟨_, rfl⟩
          simp only [hB] at HCW ⊢
          have HBe := Lib.hid hB
          clear hB
          refine wp_region_flow [none,none, some 22, none,none,none,none,none,none,none,none,none,none,none,none,none,none,none,none,none,none,none,none, some 0, some 1, some 2, some 3, some 4, some 5, some 6, some 7, some 8, some 9, some 10, some 11, some 12, some 13, some 14, some 15, some 16, some 17, some 18, some 19, some 20, some 21] (fun i => [undef,undef,undef,undef,undef,undef,undef,undef,undef,undef,undef,undef,undef,undef,undef,undef,undef,undef,undef,undef,undef,undef, .bool false].getD i undef) [(fun v _ => v = .bool false), (fun v _ => v = .bool false), (fun v _ => v = undef), (fun v _ => v = undef), (fun v _ => v = undef), (fun v _ => v = .bool false), (fun v _ => v = .bool false), (fun v _ => v = undef), (fun v _ => v = undef), (fun v _ => v = undef), (fun v _ => v = .bool false), (fun v _ => v = .bool false), (fun v _ => v = undef), (fun v _ => v = undef), (fun v _ => v = undef), (fun v _ => v = undef), (fun v _ => v = undef), (fun v _ => v = undef), (fun v _ => v = undef), (fun v _ => v = undef), (fun v _ => v = undef), (fun v _ => v = .bool false), (fun v _ => v = .bool false)] (by kernel_rfl) (by kernel_rfl) rfl rfl rfl ?_ ?_ ?_
          · intro g hg v X Y hX hY hv
            simp only [List.mem_cons, List.not_mem_nil, or_false] at hg
            rcases hg with rfl | rfl | rfl | rfl | rfl | rfl | rfl | rfl | rfl | rfl | rfl | rfl | rfl | rfl | rfl | rfl | rfl | rfl | rfl | rfl | rfl | rfl | rfl
            all_goals first
              | exact hv
              | exact hv.kept hY
          · simp only [flowOps, and_true]
            refine ⟨?_,?_,?_,?_,?_,?_,?_,?_,?_,?_,?_,?_,?_,?_,?_,?_,?_,?_,?_,?_,?_,?_,?_⟩
            · intro xs W hW hn
              simp only [flowAct, zwc, zwn]
              go_wp2_with (fail)
              exact ⟨rfl, _, rfl, Below.refl _ _, rfl⟩
            · intro xs W hW hn
              simp [flowNeeds, Region.binds] at hn
              simp only [flowAct, zwc, zwn]
              try simp only [hn]
              go_wp2_with (fail)
              exact ⟨rfl, _, rfl, Below.refl _ _, rfl⟩
            · intro xs W hW hn
              simp [flowNeeds, Region.binds] at hn
              simp only [flowAct, zwc, zwn]
              try simp only [hn]
              go_wp2_with (fail)
              exact ⟨rfl, _, rfl, Below.refl _ _, rfl⟩
            · intro xs W hW hn
              simp [flowNeeds, Region.binds] at hn
              simp only [flowAct, zwc, zwn]
              try simp only [hn]
              go_wp2_with (fail)
              exact ⟨rfl, _, rfl, Below.refl _ _, rfl⟩
            · intro xs W hW hn
              simp [flowNeeds, Region.binds] at hn
              simp only [flowAct, zwc, zwn]
              try simp only [hn]
              go_wp2_with (fail)
              exact ⟨rfl, _, rfl, Below.refl _ _, rfl⟩
            · intro xs W hW hn
              simp [flowNeeds, Region.binds] at hn
              simp only [flowAct, zwc, zwn]
              try simp only [hn]
              go_wp2_with (fail)
              exact ⟨rfl, _, rfl, Below.refl _ _, rfl⟩
            · intro xs W hW hn
              simp [flowNeeds, Region.binds] at hn
              simp only [flowAct, zwc, zwn]
              try simp only [hn]
              go_wp2_with (fail)
              exact ⟨rfl, _, rfl, Below.refl _ _, rfl⟩
            · intro xs W hW hn
              simp [flowNeeds, Region.binds] at hn
              simp only [flowAct, zwc, zwn]
              try simp only [hn]
              go_wp2_with (fail)
              exact ⟨rfl, _, rfl, Below.refl _ _, rfl⟩
            · intro xs W hW hn
              simp [flowNeeds, Region.binds] at hn
              simp only [flowAct, zwc, zwn]
              try simp only [hn]
              go_wp2_with (fail)
              exact ⟨rfl, _, rfl, Below.refl _ _, rfl⟩
            · intro xs W hW hn
              simp [flowNeeds, Region.binds] at hn
              simp only [flowAct, zwc, zwn]
              try simp only [hn]
              go_wp2_with (fail)
              exact ⟨rfl, _, rfl, Below.refl _ _, rfl⟩
            · intro xs W hW hn
              simp [flowNeeds, Region.binds] at hn
              simp only [flowAct, zwc, zwn]
              try simp only [hn]
              go_wp2_with (fail)
              exact ⟨rfl, _, rfl, Below.refl _ _, rfl⟩
            · intro xs W hW hn
              simp [flowNeeds, Region.binds] at hn
              simp only [flowAct, zwc, zwn]
              try simp only [hn]
              go_wp2_with (fail)
              exact ⟨rfl, _, rfl, Below.refl _ _, rfl⟩
            · intro xs W hW hn
              simp [flowNeeds, Region.binds] at hn
              simp only [flowAct, zwc, zwn]
              try simp only [hn]
              go_wp2_with (fail)
              exact ⟨rfl, _, rfl, Below.refl _ _, rfl⟩
            · intro xs W hW hn
              simp [flowNeeds, Region.binds] at hn
              simp only [flowAct, zwc, zwn]
              try simp only [hn]
              go_wp2_with (fail)
              exact ⟨rfl, _, rfl, Below.refl _ _, rfl⟩
            · intro xs W hW hn
              simp [flowNeeds, Region.binds] at hn
              simp only [flowAct, zwc, zwn]
              try simp only [hn]
              go_wp2_with (fail)
              exact ⟨rfl, _, rfl, Below.refl _ _, rfl⟩
            · intro xs W hW hn
              simp [flowNeeds, Region.binds] at hn
              simp only [flowAct, zwc, zwn]
              try simp only [hn]
              go_wp2_with (fail)
              exact ⟨rfl, _, rfl, Below.refl _ _, rfl⟩
            · intro xs W hW hn
              simp [flowNeeds, Region.binds] at hn
              simp only [flowAct, zwc, zwn]
              try simp only [hn]
              go_wp2_with (fail)
              exact ⟨rfl, _, rfl, Below.refl _ _, rfl⟩
            · intro xs W hW hn
              simp [flowNeeds, Region.binds] at hn
              simp only [flowAct, zwc, zwn]
              try simp only [hn]
              go_wp2_with (fail)
              exact ⟨rfl, _, rfl, Below.refl _ _, rfl⟩
            · intro xs W hW hn
              simp [flowNeeds, Region.binds] at hn
              simp only [flowAct, zwc, zwn]
              try simp only [hn]
              go_wp2_with (fail)
              exact ⟨rfl, _, rfl, Below.refl _ _, rfl⟩
            · intro xs W hW hn
              simp [flowNeeds, Region.binds] at hn
              simp only [flowAct, zwc, zwn]
              try simp only [hn]
              go_wp2_with (fail)
              exact ⟨rfl, _, rfl, Below.refl _ _, rfl⟩
            · intro xs W hW hn
              simp [flowNeeds, Region.binds] at hn
              simp only [flowAct, zwc, zwn]
              try simp only [hn]
              go_wp2_with (fail)
              exact ⟨rfl, _, rfl, Below.refl _ _, rfl⟩
            · intro xs W hW hn
              simp [flowNeeds, Region.binds] at hn
              simp only [flowAct, zwc, zwn]
              try simp only [hn]
              go_wp2_with (fail)
              exact ⟨rfl, _, rfl, Below.refl _ _, rfl⟩
            · intro xs W hW hn
              simp [flowNeeds, Region.binds] at hn
              simp only [flowAct, zwc, zwn]
              try simp only [hn]
              go_wp2_with (fail)
              exact ⟨rfl, _, rfl, Below.refl _ _, rfl⟩
          · intro xs W hW hall
            simp only [flowAll, and_true, Nat.zero_add, Nat.reduceAdd] at hall
            obtain ⟨-,-,-,-,-,-,-,-,-,-,-,-,-,-,-,-,-,-,-,-,-,-, e22⟩ := hall
            simp only [flowAct, zwc, zwn]
            simp only [e22]
            go_wp2
            go_ret
            exact ⟨by rw [HRR.out]; rfl, HB1.out.trans (hW.mono HB1.out.size)⟩
    · have e1 : (site == 1) = false := by simpa using h1
      have e2 : (site == 2) = false := by simpa using h2
      have HRR := Lib.hid (show goodHeadS site seq n s a b = false by simp [goodHeadS, e1, e2])
      clear e1 e2
      have e1 : (site != 1) = true := by simpa using h1
      have e2 : (site != 2) = true := by simpa using h2
      clear h1 h2
      go_enter Try.func132, Try.ntmps132
      go_wp2
      go_ret
      exact ⟨by rw [HRR.out]; rfl, HB0.out⟩
set_option maxHeartbeats 12800000 in
theorem goodwrites_c {w : World} {x2 : Option Addr} {m cap2 : Nat} {l : List Wr} (n1 : Nat) (hl : Wrs w x2 m cap2 l) (hx : WShort l) : Calls Try.prog 133 #[.int .i64 (n1 : Int), .slice x2 m cap2] w (Tells (.bool (gwsS n1 l)) w) := by
  have hll := hl.len
  have hle2 := hl.le
  have hmax2 := hl.max
  have H2 := Lib.hid (fun (k : Nat) => @gws_no n1 l k)
  have H3 := Lib.hid (@gws_yes n1 l)
  have H4 := Lib.hid (show ¬ (1 ≤ l.length ∧ l.length ≤ 8) → gwsS n1 l = false from fun h => by
    unfold gwsS
    by_cases h1 : 1 ≤ l.length
    · have h8 : ¬ l.length ≤ 8 := fun h8 => h ⟨h1, h8⟩
      simp [h8]
    · simp [h1])
  have HL := Lib.hid hl
  have HXS := Lib.hid hx
  obtain ⟨R, hR⟩ : ∃ z, gwsS n1 l = z := ⟨_, rfl⟩
  rw [hR, hll] at H3 H4
  rw [hR] at H2 ⊢
  rw [hll] at H2
  clear hR hl hx
  by_cases h1 : m < 1
  · have h1i : (m : Int) < 1 := by omega
    have HRR := Lib.hid (H4.out (by omega))
    clear H2 H3 H4
    go_enter Try.func133, Try.ntmps133
    go_wp2
    go_ret
    exact ⟨by rw [HRR.out]; rfl, Below.refl _ _⟩
  · have h1i : ¬ (m : Int) < 1 := by omega
    by_cases h8 : 8 < m
    · have h8i : (8 : Int) < (m : Int) := by omega
      have HRR := Lib.hid (H4.out (by omega))
      clear H2 H3 H4
      go_enter Try.func133, Try.ntmps133
      go_wp2
      go_ret
      exact ⟨by rw [HRR.out]; rfl, Below.refl _ _⟩
    · have h8i : ¬ (8 : Int) < (m : Int) := by omega
      have H3b := Lib.hid (H3.out (by omega) (by omega))
      clear H4 H3
      go_enter Try.func133, Try.ntmps133
      go_wp2
      clear h1i h8i
      go_loopw [17] (fun i wr => ∃ k : Nat, k ≤ m ∧ i = .int .i64 (k : Int) ∧ (∀ j, j < k → wAt n1 l j = true) ∧ Below w.heap.size w wr) (fun i _ => m - (intOf i).toNat)
      case atStart => exact ⟨0, by omega, rfl, fun j hj => by omega, Below.refl _ _⟩
      case round =>
        obtain ⟨k, hk, rfl, ha, hB⟩ := hrel
        have HA := Lib.hid ha
        have HBr := Lib.hid hB
        clear ha hB
        by_cases hlt : k < m
        · have hki : (k : Int) < (m : Int) := by omega
          have hkc : (k : Int) < (cap2 : Int) := by omega
          obtain ⟨bk, off, rfl, hat⟩ := HL.out.place hlt
          have hxs := HXS.out _ (wr_mem (k := k) (by rw [hll]; exact hlt))
          have hwa : wAt n1 l k = (mayS n1 (l.getD k Wr.zero) && (decide (k = 0) || aheadS (l.getD (k - 1) Wr.zero) (l.getD k Wr.zero))) := rfl
          have HWA := Lib.hid hwa
          have HPL := Lib.hid (fun (j : Nat) (hj : j < m) => HL.out.place hj)
          obtain ⟨y, hy⟩ : ∃ y, l.getD k Wr.zero = y := ⟨_, rfl⟩
          rw [hy] at hat hxs HWA
          obtain ⟨kx, ix, gx, vx⟩ := y
          simp only at hat hxs
          have hwc := fun W => cgoodwrite_c n1 kx ix gx vx hxs.1 hxs.2 W
          obtain ⟨q, hq⟩ : ∃ z, mayS n1 ⟨kx, ix, gx, vx⟩ = z := ⟨_, rfl⟩
          rw [hq] at HWA
          simp only [hq] at hwc
          have HWC := Lib.hid hwc
          obtain ⟨p0, p1, p2, p3⟩ := hat wr HBr.out
          have HY := Lib.hid hy
          clear hat hxs hwa hwc hq hy
          go_upto_region 6 with (fail)
          clear p0 p1 p2 p3
          have hb6 := alloc_below wr (.cells #[.string (text kx), .int .i64 ix, .bool gx, .string (text vx)] 112)
          have hp6 := heap_alloc_new wr (.cells #[.string (text kx), .int .i64 ix, .bool gx, .string (text vx)] 112)
          have HB2 := Lib.hid (HBr.out.trans (hb6.mono HBr.out.size))
          obtain ⟨B, hB⟩ : ∃ z, wr.heap.size = z := ⟨_, rfl⟩
          rw [hB] at hp6 ⊢
          clear hB hb6 HBr
          generalize wr.alloc (.cells #[.string (text kx), .int .i64 ix, .bool gx, .string (text vx)] 112) = W6 at *
          have HPB := Lib.hid (fun W (h : Below W6.heap.size W6 W) => wr_cells (heap_below hp6 h))
          clear hp6
          cases q with
          | false =>
            have HRR := Lib.hid (H2.out k hlt (by rw [HWA.out]; rfl))
            clear HWA
            refine wp_region_flow [none,none,none,none,none,none,none,none,none,none,none,none,none,none,none,none,none,none,none,none,none,none, some 0, some 1, some 2, some 3, some 4, some 5, some 6, some 7, some 8, some 9, some 10, some 11, some 12, some 13, some 14, some 15, some 16, some 17, none] (fun i => [u22, u23, u24, u25, u26, u27, u28, u29, u30, u31, u32, u33, u34, u35, u36, u37, u38, u39].getD i undef) [(fun v _ => v = .int .i64 (n1 : Int)), (fun v _ => v = .agg #[.string (text kx), .int .i64 ix, .bool gx, .string (text vx)]), (fun v _ => v = .bool false), (fun v _ => v = .bool true), (fun v _ => v = .bool true), (fun v _ => v = undef), (fun v _ => v = undef), (fun v _ => v = undef), (fun v _ => v = undef), (fun v _ => v = undef), (fun v _ => v = undef), (fun v _ => v = undef), (fun v _ => v = undef), (fun v _ => v = undef), (fun v _ => v = undef), (fun v _ => v = undef), (fun v _ => v = undef), (fun v _ => v = .bool true)] (by kernel_rfl) (by kernel_rfl) rfl rfl rfl ?_ ?_ ?_
            · intro g hg v X Y hX hY hv
              simp only [List.mem_cons, List.not_mem_nil, or_false] at hg
              rcases hg with rfl | rfl | rfl | rfl | rfl | rfl | rfl | rfl | rfl | rfl | rfl | rfl | rfl | rfl | rfl | rfl | rfl | rfl
              all_goals first
                | exact hv
                | exact hv.kept hY
            · simp only [flowOps, and_true]
              refine ⟨?_,?_,?_,?_,?_,?_,?_,?_,?_,?_,?_,?_,?_,?_,?_,?_,?_,?_⟩
              · intro xs W hW hn
                simp only [flowAct, zwc, zwn]
                go_wp2_with (fail)
                exact ⟨rfl, _, rfl, Below.refl _ _, rfl⟩
              · intro xs W hW hn
                obtain ⟨p0, p1, p2, p3⟩ := HPB.out W hW
                simp only [flowAct, zwc, zwn]
                go_wp2_with (fail)
                exact ⟨rfl, _, rfl, Below.refl _ _, rfl⟩
              · intro xs W hW hn
                simp [flowNeeds, Region.binds] at hn
                simp only [flowAct, zwc, zwn]
                try simp only [hn]
                go_wp2_with (go_at_call 144; (with_reducible refine (HWC.out _).mono ?_); rintro e9 w9 ⟨rfl, hb9⟩)
                exact ⟨rfl, _, rfl, hb9, rfl⟩
              · intro xs W hW hn
                simp [flowNeeds, Region.binds] at hn
                simp only [flowAct, zwc, zwn]
                try simp only [hn]
                go_wp2_with (fail)
                exact ⟨rfl, _, rfl, Below.refl _ _, rfl⟩
              · intro xs W hW hn
                simp [flowNeeds, Region.binds] at hn
                simp only [flowAct, zwc, zwn]
                try simp only [hn]
                go_wp2_with (fail)
                exact ⟨rfl, _, rfl, Below.refl _ _, rfl⟩
              · intro xs W hW hn
                simp [flowNeeds, Region.binds] at hn
                simp only [flowAct, zwc, zwn]
                try simp only [hn]
                go_wp2_with (fail)
                exact ⟨rfl, _, rfl, Below.refl _ _, rfl⟩
              · intro xs W hW hn
                simp [flowNeeds, Region.binds] at hn
                simp only [flowAct, zwc, zwn]
                try simp only [hn]
                go_wp2_with (fail)
                exact ⟨rfl, _, rfl, Below.refl _ _, rfl⟩
              · intro xs W hW hn
                simp [flowNeeds, Region.binds] at hn
                simp only [flowAct, zwc, zwn]
                try simp only [hn]
                go_wp2_with (fail)
                exact ⟨rfl, _, rfl, Below.refl _ _, rfl⟩
              · intro xs W hW hn
                simp [flowNeeds, Region.binds] at hn
                simp only [flowAct, zwc, zwn]
                try simp only [hn]
                go_wp2_with (fail)
                exact ⟨rfl, _, rfl, Below.refl _ _, rfl⟩
              · intro xs W hW hn
                simp [flowNeeds, Region.binds] at hn
                simp only [flowAct, zwc, zwn]
                try simp only [hn]
                go_wp2_with (fail)
                exact ⟨rfl, _, rfl, Below.refl _ _, rfl⟩
              · intro xs W hW hn
                simp [flowNeeds, Region.binds] at hn
                simp only [flowAct, zwc, zwn]
                try simp only [hn]
                go_wp2_with (fail)
                exact ⟨rfl, _, rfl, Below.refl _ _, rfl⟩
              · intro xs W hW hn
                simp [flowNeeds, Region.binds] at hn
                simp only [flowAct, zwc, zwn]
                try simp only [hn]
                go_wp2_with (fail)
                exact ⟨rfl, _, rfl, Below.refl _ _, rfl⟩
              · intro xs W hW hn
                simp [flowNeeds, Region.binds] at hn
                simp only [flowAct, zwc, zwn]
                try simp only [hn]
                go_wp2_with (fail)
                exact ⟨rfl, _, rfl, Below.refl _ _, rfl⟩
              · intro xs W hW hn
                simp [flowNeeds, Region.binds] at hn
                simp only [flowAct, zwc, zwn]
                try simp only [hn]
                go_wp2_with (fail)
                exact ⟨rfl, _, rfl, Below.refl _ _, rfl⟩
              · intro xs W hW hn
                simp [flowNeeds, Region.binds] at hn
                simp only [flowAct, zwc, zwn]
                try simp only [hn]
                go_wp2_with (fail)
                exact ⟨rfl, _, rfl, Below.refl _ _, rfl⟩
              · intro xs W hW hn
                simp [flowNeeds, Region.binds] at hn
                simp only [flowAct, zwc, zwn]
                try simp only [hn]
                go_wp2_with (fail)
                exact ⟨rfl, _, rfl, Below.refl _ _, rfl⟩
              · intro xs W hW hn
                simp [flowNeeds, Region.binds] at hn
                simp only [flowAct, zwc, zwn]
                try simp only [hn]
                go_wp2_with (fail)
                exact ⟨rfl, _, rfl, Below.refl _ _, rfl⟩
              · intro xs W hW hn
                simp [flowNeeds, Region.binds] at hn
                simp only [flowAct, zwc, zwn]
                try simp only [hn]
                go_wp2_with (fail)
                exact ⟨rfl, _, rfl, Below.refl _ _, rfl⟩
            · intro xs W hW hall
              simp only [flowAll, and_true, Nat.zero_add, Nat.reduceAdd] at hall
              obtain ⟨-,-,-,-,-,-,-,-,-,-,-,-,-,-,-,-,-, e17⟩ := hall
              simp only [flowAct, zwc, zwn]
              simp only [e17]
              go_wp2
              go_ret
              exact ⟨by rw [HRR.out]; rfl, HB2.out.trans (hW.mono HB2.out.size)⟩
          | true =>
            by_cases hk0 : k = 0
            · subst hk0
              have HAN := Lib.hid (show ∀ j, j < 0 + 1 → wAt n1 l j = true from fun j hj => by
                obtain rfl : j = 0 := by omega
                rw [HWA.out]; rfl)
              clear HWA
              refine wp_region_flow [none,none,none,none,none,none,none,none,none,none,none,none,none,none,none,none,none,none,none,none,none,none, some 0, some 1, some 2, some 3, some 4, some 5, some 6, some 7, some 8, some 9, some 10, some 11, some 12, some 13, some 14, some 15, some 16, some 17, none] (fun i => [u22, u23, u24, u25, u26, u27, u28, u29, u30, u31, u32, u33, u34, u35, u36, u37, u38, u39].getD i undef) [(fun v _ => v = .int .i64 (n1 : Int)), (fun v _ => v = .agg #[.string (text kx), .int .i64 ix, .bool gx, .string (text vx)]), (fun v _ => v = .bool true), (fun v _ => v = .bool false), (fun v _ => v = .bool false), (fun v _ => v = .int .i64 0), (fun v _ => v = .bool false), (fun v _ => v = .bool false), (fun v _ => v = undef), (fun v _ => v = undef), (fun v _ => v = undef), (fun v _ => v = undef), (fun v _ => v = undef), (fun v _ => v = undef), (fun v _ => v = undef), (fun v _ => v = undef), (fun v _ => v = .bool false), (fun v _ => v = .bool false)] (by kernel_rfl) (by kernel_rfl) rfl rfl rfl ?_ ?_ ?_
              · intro g hg v X Y hX hY hv
                simp only [List.mem_cons, List.not_mem_nil, or_false] at hg
                rcases hg with rfl | rfl | rfl | rfl | rfl | rfl | rfl | rfl | rfl | rfl | rfl | rfl | rfl | rfl | rfl | rfl | rfl | rfl
                all_goals first
                  | exact hv
                  | exact hv.kept hY
              · simp only [flowOps, and_true]
                refine ⟨?_,?_,?_,?_,?_,?_,?_,?_,?_,?_,?_,?_,?_,?_,?_,?_,?_,?_⟩
                · intro xs W hW hn
                  simp only [flowAct, zwc, zwn]
                  go_wp2_with (fail)
                  exact ⟨rfl, _, rfl, Below.refl _ _, rfl⟩
                · intro xs W hW hn
                  obtain ⟨p0, p1, p2, p3⟩ := HPB.out W hW
                  simp only [flowAct, zwc, zwn]
                  go_wp2_with (fail)
                  exact ⟨rfl, _, rfl, Below.refl _ _, rfl⟩
                · intro xs W hW hn
                  simp [flowNeeds, Region.binds] at hn
                  simp only [flowAct, zwc, zwn]
                  try simp only [hn]
                  go_wp2_with (go_at_call 144; (with_reducible refine (HWC.out _).mono ?_); rintro e9 w9 ⟨rfl, hb9⟩)
                  exact ⟨rfl, _, rfl, hb9, rfl⟩
                · intro xs W hW hn
                  simp [flowNeeds, Region.binds] at hn
                  simp only [flowAct, zwc, zwn]
                  try simp only [hn]
                  go_wp2_with (fail)
                  exact ⟨rfl, _, rfl, Below.refl _ _, rfl⟩
                · intro xs W hW hn
                  simp [flowNeeds, Region.binds] at hn
                  simp only [flowAct, zwc, zwn]
                  try simp only [hn]
                  go_wp2_with (fail)
                  exact ⟨rfl, _, rfl, Below.refl _ _, rfl⟩
                · intro xs W hW hn
                  simp [flowNeeds, Region.binds] at hn
                  simp only [flowAct, zwc, zwn]
                  try simp only [hn]
                  go_wp2_with (fail)
                  exact ⟨rfl, _, rfl, Below.refl _ _, rfl⟩
                · intro xs W hW hn
                  simp [flowNeeds, Region.binds] at hn
                  simp only [flowAct, zwc, zwn]
                  try simp only [hn]
                  go_wp2_with (fail)
                  exact ⟨rfl, _, rfl, Below.refl _ _, rfl⟩
                · intro xs W hW hn
                  simp [flowNeeds, Region.binds] at hn
                  simp only [flowAct, zwc, zwn]
                  try simp only [hn]
                  go_wp2_with (fail)
                  exact ⟨rfl, _, rfl, Below.refl _ _, rfl⟩
                · intro xs W hW hn
                  simp [flowNeeds, Region.binds] at hn
                  simp only [flowAct, zwc, zwn]
                  try simp only [hn]
                  go_wp2_with (fail)
                  exact ⟨rfl, _, rfl, Below.refl _ _, rfl⟩
                · intro xs W hW hn
                  simp [flowNeeds, Region.binds] at hn
                  simp only [flowAct, zwc, zwn]
                  try simp only [hn]
                  go_wp2_with (fail)
                  exact ⟨rfl, _, rfl, Below.refl _ _, rfl⟩
                · intro xs W hW hn
                  simp [flowNeeds, Region.binds] at hn
                  simp only [flowAct, zwc, zwn]
                  try simp only [hn]
                  go_wp2_with (fail)
                  exact ⟨rfl, _, rfl, Below.refl _ _, rfl⟩
                · intro xs W hW hn
                  simp [flowNeeds, Region.binds] at hn
                  simp only [flowAct, zwc, zwn]
                  try simp only [hn]
                  go_wp2_with (fail)
                  exact ⟨rfl, _, rfl, Below.refl _ _, rfl⟩
                · intro xs W hW hn
                  simp [flowNeeds, Region.binds] at hn
                  simp only [flowAct, zwc, zwn]
                  try simp only [hn]
                  go_wp2_with (fail)
                  exact ⟨rfl, _, rfl, Below.refl _ _, rfl⟩
                · intro xs W hW hn
                  simp [flowNeeds, Region.binds] at hn
                  simp only [flowAct, zwc, zwn]
                  try simp only [hn]
                  go_wp2_with (fail)
                  exact ⟨rfl, _, rfl, Below.refl _ _, rfl⟩
                · intro xs W hW hn
                  simp [flowNeeds, Region.binds] at hn
                  simp only [flowAct, zwc, zwn]
                  try simp only [hn]
                  go_wp2_with (fail)
                  exact ⟨rfl, _, rfl, Below.refl _ _, rfl⟩
                · intro xs W hW hn
                  simp [flowNeeds, Region.binds] at hn
                  simp only [flowAct, zwc, zwn]
                  try simp only [hn]
                  go_wp2_with (fail)
                  exact ⟨rfl, _, rfl, Below.refl _ _, rfl⟩
                · intro xs W hW hn
                  simp [flowNeeds, Region.binds] at hn
                  simp only [flowAct, zwc, zwn]
                  try simp only [hn]
                  go_wp2_with (fail)
                  exact ⟨rfl, _, rfl, Below.refl _ _, rfl⟩
                · intro xs W hW hn
                  simp [flowNeeds, Region.binds] at hn
                  simp only [flowAct, zwc, zwn]
                  try simp only [hn]
                  go_wp2_with (fail)
                  exact ⟨rfl, _, rfl, Below.refl _ _, rfl⟩
              · intro xs W hW hall
                simp only [flowAll, and_true, Nat.zero_add, Nat.reduceAdd] at hall
                obtain ⟨-,-,-,-,-,-,-,-,-,-,-,-,-,-,-,-,-, e17⟩ := hall
                simp only [flowAct, zwc, zwn]
                simp only [e17]
                go_wp2
                go_roundw
                case rel => exact ⟨0 + 1, by omega, by go_num, HAN.out, HB2.out.trans (hW.mono HB2.out.size)⟩
                case measure => simp [intOf]; omega
            · obtain ⟨j, rfl⟩ : ∃ j, k = j + 1 := ⟨k - 1, by omega⟩
              clear hk0
              obtain ⟨bk', off', eab, hat'⟩ := HPL.out j (by omega)
              injection eab with eab
              injection eab with e1 e2 e3
              subst e1 e2
              clear e3
              have hord := ord_geq (l.getD j Wr.zero) ⟨kx, ix, gx, vx⟩
              have HWA2 := Lib.hid (show wAt n1 l (j + 1) = aheadS (l.getD j Wr.zero) ⟨kx, ix, gx, vx⟩ by
                rw [HWA.out]
                simp)
              clear HWA
              obtain ⟨z, hz⟩ : ∃ z, l.getD j Wr.zero = z := ⟨_, rfl⟩
              rw [hz] at hat' hord HWA2
              obtain ⟨ky, iy, gy, vy⟩ := z
              simp only at hat'
              have HQW := Lib.hid (fun W (h : Below W6.heap.size W6 W) => hat' W (HB2.out.trans (h.mono HB2.out.size)))
              have hah := fun W => order_c ky iy gy vy kx ix gx vx W
              obtain ⟨AH, hAH⟩ : ∃ z, aheadS ⟨ky, iy, gy, vy⟩ ⟨kx, ix, gx, vx⟩ = z := ⟨_, rfl⟩
              obtain ⟨OR, hOR⟩ : ∃ z, ordS ⟨ky, iy, gy, vy⟩ ⟨kx, ix, gx, vx⟩ = z := ⟨_, rfl⟩
              rw [hAH] at hord HWA2
              rw [hOR] at hord
              simp only [hOR] at hah
              have HAH := Lib.hid hah
              have HGE := Lib.hid hord
              have hj0 : (0 : Int) < ((j + 1 : Nat) : Int) := by omega
              have hjn : (j : Int) < (m : Int) := by omega
              have hjc : (j : Int) < (cap2 : Int) := by omega
              clear hat' hz hah hAH hOR hord
              cases AH with
              | true =>
                have HAN := Lib.hid (show ∀ i, i < j + 1 + 1 → wAt n1 l i = true from fun i hi => by
                  by_cases h9 : i < j + 1
                  · exact HA.out i h9
                  · obtain rfl : i = j + 1 := by omega
                    exact HWA2.out)
                clear HWA2 HA
                refine wp_region_flow [none,none,none,none,none,none,none,none,none,none,none,none,none,none,none,none,none,none,none,none,none,none, some 0, some 1, some 2, some 3, some 4, some 5, some 6, some 7, some 8, some 9, some 10, some 11, some 12, some 13, some 14, some 15, some 16, some 17, none] (fun i => [u22, u23, u24, u25, u26, u27, u28, u29, u30, u31, u32, u33, u34, u35, u36, u37, u38, u39].getD i undef) [(fun v _ => v = .int .i64 (n1 : Int)), (fun v _ => v = .agg #[.string (text kx), .int .i64 ix, .bool gx, .string (text vx)]), (fun v _ => v = .bool true), (fun v _ => v = .bool false), (fun v _ => v = .bool false), (fun v _ => v = .int .i64 ((j + 1 : Nat) : Int)), (fun v _ => v = .bool true), (fun v _ => v = .bool true), (fun v _ => v = .slice (some ⟨bk, off, none⟩) m cap2), (fun v _ => v = .int .i64 ((j + 1 : Nat) : Int)), (fun v _ => v = .int .i64 (j : Int)), (fun v _ => v = .pointer (some ⟨bk, off + j * 4, none⟩)), (fun v _ => v = .agg #[.string (text ky), .int .i64 iy, .bool gy, .string (text vy)]), (fun v _ => v = .agg #[.string (text kx), .int .i64 ix, .bool gx, .string (text vx)]), (fun v _ => v = .int .i64 OR), (fun v _ => v = .bool (!true)), (fun v _ => v = .bool (!true)), (fun v _ => v = .bool (!true))] (by kernel_rfl) (by kernel_rfl) rfl rfl rfl ?_ ?_ ?_
                · intro g hg v X Y hX hY hv
                  simp only [List.mem_cons, List.not_mem_nil, or_false] at hg
                  rcases hg with rfl | rfl | rfl | rfl | rfl | rfl | rfl | rfl | rfl | rfl | rfl | rfl | rfl | rfl | rfl | rfl | rfl | rfl
                  all_goals first
                    | exact hv
                    | exact hv.kept hY
                · simp only [flowOps, and_true]
                  refine ⟨?_,?_,?_,?_,?_,?_,?_,?_,?_,?_,?_,?_,?_,?_,?_,?_,?_,?_⟩
                  · intro xs W hW hn
                    simp only [flowAct, zwc, zwn]
                    go_wp2_with (fail)
                    exact ⟨rfl, _, rfl, Below.refl _ _, rfl⟩
                  · intro xs W hW hn
                    obtain ⟨p0, p1, p2, p3⟩ := HPB.out W hW
                    simp only [flowAct, zwc, zwn]
                    go_wp2_with (fail)
                    exact ⟨rfl, _, rfl, Below.refl _ _, rfl⟩
                  · intro xs W hW hn
                    simp [flowNeeds, Region.binds] at hn
                    simp only [flowAct, zwc, zwn]
                    try simp only [hn]
                    go_wp2_with (go_at_call 144; (with_reducible refine (HWC.out _).mono ?_); rintro e9 w9 ⟨rfl, hb9⟩)
                    exact ⟨rfl, _, rfl, hb9, rfl⟩
                  · intro xs W hW hn
                    simp [flowNeeds, Region.binds] at hn
                    simp only [flowAct, zwc, zwn]
                    try simp only [hn]
                    go_wp2_with (fail)
                    exact ⟨rfl, _, rfl, Below.refl _ _, rfl⟩
                  · intro xs W hW hn
                    simp [flowNeeds, Region.binds] at hn
                    simp only [flowAct, zwc, zwn]
                    try simp only [hn]
                    go_wp2_with (fail)
                    exact ⟨rfl, _, rfl, Below.refl _ _, rfl⟩
                  · intro xs W hW hn
                    simp [flowNeeds, Region.binds] at hn
                    simp only [flowAct, zwc, zwn]
                    try simp only [hn]
                    go_wp2_with (fail)
                    exact ⟨rfl, _, rfl, Below.refl _ _, rfl⟩
                  · intro xs W hW hn
                    simp [flowNeeds, Region.binds] at hn
                    simp only [flowAct, zwc, zwn]
                    try simp only [hn]
                    go_wp2_with (fail)
                    exact ⟨rfl, _, rfl, Below.refl _ _, by first | rfl | go_num | (simp; done)⟩
                  · intro xs W hW hn
                    simp [flowNeeds, Region.binds] at hn
                    simp only [flowAct, zwc, zwn]
                    try simp only [hn]
                    go_wp2_with (fail)
                    exact ⟨rfl, _, rfl, Below.refl _ _, rfl⟩
                  · intro xs W hW hn
                    simp [flowNeeds, Region.binds] at hn
                    simp only [flowAct, zwc, zwn]
                    try simp only [hn]
                    go_wp2_with (fail)
                    exact ⟨rfl, _, rfl, Below.refl _ _, rfl⟩
                  · intro xs W hW hn
                    simp [flowNeeds, Region.binds] at hn
                    simp only [flowAct, zwc, zwn]
                    try simp only [hn]
                    go_wp2_with (fail)
                    exact ⟨rfl, _, rfl, Below.refl _ _, rfl⟩
                  · intro xs W hW hn
                    simp [flowNeeds, Region.binds] at hn
                    simp only [flowAct, zwc, zwn]
                    try simp only [hn]
                    go_wp2_with (fail)
                    exact ⟨rfl, _, rfl, Below.refl _ _, by first | rfl | go_num | (simp; done)⟩
                  · intro xs W hW hn
                    simp [flowNeeds, Region.binds] at hn
                    simp only [flowAct, zwc, zwn]
                    try simp only [hn]
                    go_wp2_with (fail)
                    exact ⟨rfl, _, rfl, Below.refl _ _, rfl⟩
                  · intro xs W hW hn
                    obtain ⟨y0, y1, y2, y3⟩ := HQW.out W hW
                    simp [flowNeeds, Region.binds] at hn
                    simp only [flowAct, zwc, zwn]
                    try simp only [hn]
                    go_wp2_with (fail)
                    exact ⟨rfl, _, rfl, Below.refl _ _, rfl⟩
                  · intro xs W hW hn
                    obtain ⟨p0, p1, p2, p3⟩ := HPB.out W hW
                    simp [flowNeeds, Region.binds] at hn
                    simp only [flowAct, zwc, zwn]
                    try simp only [hn]
                    go_wp2_with (fail)
                    exact ⟨rfl, _, rfl, Below.refl _ _, rfl⟩
                  · intro xs W hW hn
                    simp [flowNeeds, Region.binds] at hn
                    simp only [flowAct, zwc, zwn]
                    try simp only [hn]
                    go_wp2_with (go_at_call 145; (with_reducible refine (HAH.out _).mono ?_); rintro e9 w9 ⟨rfl, hb9⟩)
                    exact ⟨rfl, _, rfl, hb9, rfl⟩
                  · intro xs W hW hn
                    simp [flowNeeds, Region.binds] at hn
                    simp only [flowAct, zwc, zwn]
                    try simp only [hn]
                    go_wp2_with (fail)
                    exact ⟨rfl, _, rfl, Below.refl _ _, by first | exact congrArg Value.bool HGE.out | (have := HGE.out; simp at this ⊢; exact this)⟩
                  · intro xs W hW hn
                    simp [flowNeeds, Region.binds] at hn
                    simp only [flowAct, zwc, zwn]
                    try simp only [hn]
                    go_wp2_with (fail)
                    exact ⟨rfl, _, rfl, Below.refl _ _, rfl⟩
                  · intro xs W hW hn
                    simp [flowNeeds, Region.binds] at hn
                    simp only [flowAct, zwc, zwn]
                    try simp only [hn]
                    go_wp2_with (fail)
                    exact ⟨rfl, _, rfl, Below.refl _ _, rfl⟩
                · intro xs W hW hall
                  simp only [flowAll, and_true, Nat.zero_add, Nat.reduceAdd] at hall
                  obtain ⟨-,-,-,-,-,-,-,-,-,-,-,-,-,-,-,-,-, e17⟩ := hall
                  simp only [flowAct, zwc, zwn]
                  simp only [e17]
                  go_wp2
                  go_roundw
                  case rel => exact ⟨(j + 1) + 1, by omega, by go_num, HAN.out, HB2.out.trans (hW.mono HB2.out.size)⟩
                  case measure => simp [intOf]; omega
              | false =>
                have HRR := Lib.hid (H2.out (j + 1) hlt HWA2.out)
                clear HWA2 HA
                refine wp_region_flow [none,none,none,none,none,none,none,none,none,none,none,none,none,none,none,none,none,none,none,none,none,none, some 0, some 1, some 2, some 3, some 4, some 5, some 6, some 7, some 8, some 9, some 10, some 11, some 12, some 13, some 14, some 15, some 16, some 17, none] (fun i => [u22, u23, u24, u25, u26, u27, u28, u29, u30, u31, u32, u33, u34, u35, u36, u37, u38, u39].getD i undef) [(fun v _ => v = .int .i64 (n1 : Int)), (fun v _ => v = .agg #[.string (text kx), .int .i64 ix, .bool gx, .string (text vx)]), (fun v _ => v = .bool true), (fun v _ => v = .bool false), (fun v _ => v = .bool false), (fun v _ => v = .int .i64 ((j + 1 : Nat) : Int)), (fun v _ => v = .bool true), (fun v _ => v = .bool true), (fun v _ => v = .slice (some ⟨bk, off, none⟩) m cap2), (fun v _ => v = .int .i64 ((j + 1 : Nat) : Int)), (fun v _ => v = .int .i64 (j : Int)), (fun v _ => v = .pointer (some ⟨bk, off + j * 4, none⟩)), (fun v _ => v = .agg #[.string (text ky), .int .i64 iy, .bool gy, .string (text vy)]), (fun v _ => v = .agg #[.string (text kx), .int .i64 ix, .bool gx, .string (text vx)]), (fun v _ => v = .int .i64 OR), (fun v _ => v = .bool (!false)), (fun v _ => v = .bool (!false)), (fun v _ => v = .bool (!false))] (by kernel_rfl) (by kernel_rfl) rfl rfl rfl ?_ ?_ ?_
                · intro g hg v X Y hX hY hv
                  simp only [List.mem_cons, List.not_mem_nil, or_false] at hg
                  rcases hg with rfl | rfl | rfl | rfl | rfl | rfl | rfl | rfl | rfl | rfl | rfl | rfl | rfl | rfl | rfl | rfl | rfl | rfl
                  all_goals first
                    | exact hv
                    | exact hv.kept hY
                · simp only [flowOps, and_true]
                  refine ⟨?_,?_,?_,?_,?_,?_,?_,?_,?_,?_,?_,?_,?_,?_,?_,?_,?_,?_⟩
                  · intro xs W hW hn
                    simp only [flowAct, zwc, zwn]
                    go_wp2_with (fail)
                    exact ⟨rfl, _, rfl, Below.refl _ _, rfl⟩
                  · intro xs W hW hn
                    obtain ⟨p0, p1, p2, p3⟩ := HPB.out W hW
                    simp only [flowAct, zwc, zwn]
                    go_wp2_with (fail)
                    exact ⟨rfl, _, rfl, Below.refl _ _, rfl⟩
                  · intro xs W hW hn
                    simp [flowNeeds, Region.binds] at hn
                    simp only [flowAct, zwc, zwn]
                    try simp only [hn]
                    go_wp2_with (go_at_call 144; (with_reducible refine (HWC.out _).mono ?_); rintro e9 w9 ⟨rfl, hb9⟩)
                    exact ⟨rfl, _, rfl, hb9, rfl⟩
                  · intro xs W hW hn
                    simp [flowNeeds, Region.binds] at hn
                    simp only [flowAct, zwc, zwn]
                    try simp only [hn]
                    go_wp2_with (fail)
                    exact ⟨rfl, _, rfl, Below.refl _ _, rfl⟩
                  · intro xs W hW hn
                    simp [flowNeeds, Region.binds] at hn
                    simp only [flowAct, zwc, zwn]
                    try simp only [hn]
                    go_wp2_with (fail)
                    exact ⟨rfl, _, rfl, Below.refl _ _, rfl⟩
                  · intro xs W hW hn
                    simp [flowNeeds, Region.binds] at hn
                    simp only [flowAct, zwc, zwn]
                    try simp only [hn]
                    go_wp2_with (fail)
                    exact ⟨rfl, _, rfl, Below.refl _ _, rfl⟩
                  · intro xs W hW hn
                    simp [flowNeeds, Region.binds] at hn
                    simp only [flowAct, zwc, zwn]
                    try simp only [hn]
                    go_wp2_with (fail)
                    exact ⟨rfl, _, rfl, Below.refl _ _, by first | rfl | go_num | (simp; done)⟩
                  · intro xs W hW hn
                    simp [flowNeeds, Region.binds] at hn
                    simp only [flowAct, zwc, zwn]
                    try simp only [hn]
                    go_wp2_with (fail)
                    exact ⟨rfl, _, rfl, Below.refl _ _, rfl⟩
                  · intro xs W hW hn
                    simp [flowNeeds, Region.binds] at hn
                    simp only [flowAct, zwc, zwn]
                    try simp only [hn]
                    go_wp2_with (fail)
                    exact ⟨rfl, _, rfl, Below.refl _ _, rfl⟩
                  · intro xs W hW hn
                    simp [flowNeeds, Region.binds] at hn
                    simp only [flowAct, zwc, zwn]
                    try simp only [hn]
                    go_wp2_with (fail)
                    exact ⟨rfl, _, rfl, Below.refl _ _, rfl⟩
                  · intro xs W hW hn
                    simp [flowNeeds, Region.binds] at hn
                    simp only [flowAct, zwc, zwn]
                    try simp only [hn]
                    go_wp2_with (fail)
                    exact ⟨rfl, _, rfl, Below.refl _ _, by first | rfl | go_num | (simp; done)⟩
                  · intro xs W hW hn
                    simp [flowNeeds, Region.binds] at hn
                    simp only [flowAct, zwc, zwn]
                    try simp only [hn]
                    go_wp2_with (fail)
                    exact ⟨rfl, _, rfl, Below.refl _ _, rfl⟩
                  · intro xs W hW hn
                    obtain ⟨y0, y1, y2, y3⟩ := HQW.out W hW
                    simp [flowNeeds, Region.binds] at hn
                    simp only [flowAct, zwc, zwn]
                    try simp only [hn]
                    go_wp2_with (fail)
                    exact ⟨rfl, _, rfl, Below.refl _ _, rfl⟩
                  · intro xs W hW hn
                    obtain ⟨p0, p1, p2, p3⟩ := HPB.out W hW
                    simp [flowNeeds, Region.binds] at hn
                    simp only [flowAct, zwc, zwn]
                    try simp only [hn]
                    go_wp2_with (fail)
                    exact ⟨rfl, _, rfl, Below.refl _ _, rfl⟩
                  · intro xs W hW hn
                    simp [flowNeeds, Region.binds] at hn
                    simp only [flowAct, zwc, zwn]
                    try simp only [hn]
                    go_wp2_with (go_at_call 145; (with_reducible refine (HAH.out _).mono ?_); rintro e9 w9 ⟨rfl, hb9⟩)
                    exact ⟨rfl, _, rfl, hb9, rfl⟩
                  · intro xs W hW hn
                    simp [flowNeeds, Region.binds] at hn
                    simp only [flowAct, zwc, zwn]
                    try simp only [hn]
                    go_wp2_with (fail)
                    exact ⟨rfl, _, rfl, Below.refl _ _, by first | exact congrArg Value.bool HGE.out | (have := HGE.out; simp at this ⊢; exact this)⟩
                  · intro xs W hW hn
                    simp [flowNeeds, Region.binds] at hn
                    simp only [flowAct, zwc, zwn]
                    try simp only [hn]
                    go_wp2_with (fail)
                    exact ⟨rfl, _, rfl, Below.refl _ _, rfl⟩
                  · intro xs W hW hn
                    simp [flowNeeds, Region.binds] at hn
                    simp only [flowAct, zwc, zwn]
                    try simp only [hn]
                    go_wp2_with (fail)
                    exact ⟨rfl, _, rfl, Below.refl _ _, rfl⟩
                · intro xs W hW hall
                  simp only [flowAll, and_true, Nat.zero_add, Nat.reduceAdd] at hall
                  obtain ⟨-,-,-,-,-,-,-,-,-,-,-,-,-,-,-,-,-, e17⟩ := hall
                  simp only [flowAct, zwc, zwn]
                  simp only [e17]
                  go_wp2
                  go_ret
                  exact ⟨by rw [HRR.out]; rfl, HB2.out.trans (hW.mono HB2.out.size)⟩
        · obtain rfl : m = k := by omega
          have HRR := Lib.hid (H3b.out HA.out)
          clear H2 H3b
          go_wp2
          go_ret
          exact ⟨by rw [HRR.out]; rfl, HBr.out⟩
set_option maxHeartbeats 3200000 in
theorem chgood_c {w : World} {x x2 : Option Addr} {n1 cap m cap2 : Nat} {gs : List Grp} {l : List Wr} (hg : Grs w x n1 cap gs) (hs : ∀ g ∈ gs, g.1.length ≤ 9223372036854775807) (hl : Wrs w x2 m cap2 l) (hx : WShort l) (site seq n s a b : Int) :
    Calls Try.prog 110 #[.slice x n1 cap, .agg #[.int .i64 site, .int .i64 seq, .int .i64 n, .int .i64 s, .int .i64 a, .int .i64 b, .slice x2 m cap2]] w (Tells (.int .i64 (chgoodS gs site seq n s a b l)) w) := by
  have hgl := hg.len
  have HPG := Lib.hid (fun W (h : Below w.heap.size w W) => pgood_c (hg.below h) hs)
  have HGH := Lib.hid (fun W => goodhead_c site seq n s a b x2 m cap2 W)
  have HGW := Lib.hid (fun W (h : Below w.heap.size w W) => goodwrites_c n1 (hl.below h) hx)
  have HV := Lib.hid (chgood_eq gs site seq n s a b l)
  rw [hgl] at HV
  obtain ⟨R, hR⟩ : ∃ z, chgoodS gs site seq n s a b l = z := ⟨_, rfl⟩
  obtain ⟨P0, hP⟩ : ∃ z, pgoodS gs = z := ⟨_, rfl⟩
  obtain ⟨GH, hGH⟩ : ∃ z, goodHeadS site seq n s a b = z := ⟨_, rfl⟩
  obtain ⟨GW, hGW⟩ : ∃ z, gwsS n1 l = z := ⟨_, rfl⟩
  rw [hR, hP, hGH, hGW] at HV
  simp only [hP] at HPG
  simp only [hGH] at HGH
  simp only [hGW] at HGW
  rw [hR]
  have HB1 := Lib.hid (alloc_below w (.cells #[.int .i64 site, .int .i64 seq, .int .i64 n, .int .i64 s, .int .i64 a, .int .i64 b, .slice x2 m cap2] 95))
  have hr := heap_alloc_new w (.cells #[.int .i64 site, .int .i64 seq, .int .i64 n, .int .i64 s, .int .i64 a, .int .i64 b, .slice x2 m cap2] 95)
  have HC0 := Lib.hid (fun W (h : Below (w.alloc (.cells #[.int .i64 site, .int .i64 seq, .int .i64 n, .int .i64 s, .int .i64 a, .int .i64 b, .slice x2 m cap2] 95)).heap.size (w.alloc (.cells #[.int .i64 site, .int .i64 seq, .int .i64 n, .int .i64 s, .int .i64 a, .int .i64 b, .slice x2 m cap2] 95)) W) => ch_cells (heap_below hr h))
  clear hR hP hGH hGW hg hs hl hx hr
  by_cases h0 : P0 = 0
  · subst h0
    go_enter Try.func110, Try.ntmps110
    go_upto_region 4 with (go_at_call 60; (with_reducible refine (HPG.out _ HB1.out).mono ?_); rintro e9 w2 ⟨rfl, hb2⟩)
    have HB2 := Lib.hid (HB1.out.trans (hb2.mono HB1.out.size))
    obtain ⟨c0, c1, c2, c3, c4, c5, c6⟩ := HC0.out _ hb2
    have HC2 := Lib.hid (fun W (h : Below w2.heap.size w2 W) => HC0.out W (hb2.trans (h.mono hb2.size)))
    clear hb2 HC0 HB1
    cases GH with
    | false =>
      have HRR := Lib.hid (show R = 120 by rw [HV.out]; rfl)
      clear HV
      go_wp2_with (go_at_call 132; (with_reducible refine (HGH.out _).mono ?_); rintro e9 w3 ⟨rfl, hb3⟩)
      go_ret
      exact ⟨by rw [HRR.out]; rfl, HB2.out.trans (hb3.mono HB2.out.size)⟩
    | true =>
      cases GW with
      | false =>
        have HRR := Lib.hid (show R = 120 by rw [HV.out]; rfl)
        clear HV
        go_wp2_with (first | (go_at_call 132; (with_reducible refine (HGH.out _).mono ?_); rintro e9 w3 ⟨rfl, hb3⟩; obtain ⟨d0, d1, d2, d3, d4, d5, d6⟩ := HC2.out _ hb3; have HB3 := Lib.hid (HB2.out.trans (hb3.mono HB2.out.size)); clear hb3) | (go_at_call 133; (with_reducible refine (HGW.out _ HB3.out).mono ?_); rintro e9 w4 ⟨rfl, hb4⟩))
        go_ret
        exact ⟨by rw [HRR.out]; rfl, HB3.out.trans (hb4.mono HB3.out.size)⟩
      | true =>
        have HRR := Lib.hid (show R = 0 by rw [HV.out]; rfl)
        clear HV
        go_wp2_with (first | (go_at_call 132; (with_reducible refine (HGH.out _).mono ?_); rintro e9 w3 ⟨rfl, hb3⟩; obtain ⟨d0, d1, d2, d3, d4, d5, d6⟩ := HC2.out _ hb3; have HB3 := Lib.hid (HB2.out.trans (hb3.mono HB2.out.size)); clear hb3) | (go_at_call 133; (with_reducible refine (HGW.out _ HB3.out).mono ?_); rintro e9 w4 ⟨rfl, hb4⟩))
        go_ret
        exact ⟨by rw [HRR.out]; rfl, HB3.out.trans (hb4.mono HB3.out.size)⟩
  · have HRR := Lib.hid (show R = P0 by rw [HV.out, if_pos h0])
    have h0n : (P0 != 0) = true := by simpa using h0
    clear HV
    go_enter Try.func110, Try.ntmps110
    go_wp2_with (go_at_call 60; (with_reducible refine (HPG.out _ HB1.out).mono ?_); rintro e9 w2 ⟨rfl, hb2⟩)
    go_ret
    exact ⟨by rw [HRR.out]; rfl, HB1.out.trans (hb2.mono HB1.out.size)⟩
end Go.Proofs.Yteffbibmfpdenaa
end

section
namespace Go.Proofs.Yteffbibmfpdenaa
open Go.RowKit Go Go.Sort
set_option linter.unusedVariables false
set_option maxRecDepth 20000

theorem pair_cells {W : World} {q : Nat} {x y : Value} {t : TypeId} (h : W.heap[q]? = some (.cells #[x, y] t (0, 0))) : W.cell? ⟨q, 0, none⟩ = some x ∧ W.cell? ⟨q, 1, none⟩ = some y := by
  refine ⟨?_,?_⟩ <;> (rw [cell_of_row _ q _ _ _ (0, 0) h]; rfl)
section
variable {l : List UInt8} {q1 q2 q3 q4 q5 : Nat} {site seq n s a b m9 k f : Int}
end
end Go.Proofs.Yteffbibmfpdenaa
end

section
namespace Go.Proofs.Yteffbibmfpdenaa
open Go.RowKit Go Go.Sort
set_option linter.unusedVariables false
set_option maxRecDepth 20000

theorem cof_x (p n s a b : Int) (g : Bool) (t : List UInt8) (hmax : t.length ≤ 9223372036854775807) : ∃ (n9 s9 a9 b9 : Int) (g9 : Bool) (t9 : List UInt8) (d9 e9 f9 : Int), (cofS p n s a b g t).1 = ⟨n9, s9, a9, b9, g9, t9, d9, e9⟩ ∧ ∀ w : World, Calls Try.prog 112 #[.int .i64 p, .agg #[.int .i64 n, .int .i64 s], .agg #[.int .i64 a, .int .i64 b], .bool g, .string (text t)] w (Tells (.tuple #[.agg #[.int .i64 n9, .int .i64 s9, .int .i64 a9, .int .i64 b9, .bool g9, .string (text t9), .int .i64 d9, .int .i64 e9], .int .i64 f9]) w) := by
  have h := fun w => cof_c p n s a b g t hmax w
  obtain ⟨⟨⟨n9, s9, a9, b9, g9, t9, d9, e9⟩, f9⟩, hz⟩ : ∃ z, cofS p n s a b g t = z := ⟨_, rfl⟩
  rw [hz] at h
  exact ⟨n9, s9, a9, b9, g9, t9, d9, e9, f9, by rw [hz], h⟩
theorem rownew_x {w : World} {x : Option Addr} {n1 cap : Nat} {gs : List Grp} (hg : Grs w x n1 cap gs) (hs : ∀ g ∈ gs, g.1.length ≤ 9223372036854775807) (hp : pgoodS gs = 0) (key : List UInt8) (hk : key.length ≤ 9223372036854775807) (hk0 : keyS key = 0) :
    Calls Try.prog 111 #[.slice x n1 cap, .string (text key)] w (fun e w' => ∃ u, e = .returned (.tuple #[.agg #[.string (text key), u], .int .i64 0]) ∧ OwnC w' w.heap.size u (zerosC n1) ∧ Below w.heap.size w w') := by
  have h := rownew_c hg hs key hk
  rw [new_yes hp hk0, hg.len] at h
  exact h
theorem wrow_last (gs : List Grp) (n s a b : Int) (ws : List Wr) (k : Nat) : ∃ p, (wrowN gs n s a b ws (k + 1)).length = p + 1 ∧ ((wrowN gs n s a b ws (k + 1)).getD p ([], [])).1 = (ws.getD k Wr.zero).k := by
  show ∃ p, (rowPut _ (wrowN gs n s a b ws k) _ _ _).length = p + 1 ∧ ((rowPut _ (wrowN gs n s a b ws k) _ _ _).getD p ([], [])).1 = _
  unfold rowPut
  split
  · exact ⟨(wrowN gs n s a b ws k).length, by simp, by simp [List.getD_eq_getElem?_getD]⟩
  · rename_i h
    have h1 : (wrowN gs n s a b ws k).length ≠ 0 := fun e => h (.inl e)
    refine ⟨(wrowN gs n s a b ws k).length - 1, by simp; omega, ?_⟩
    rw [List.getD_eq_getElem?_getD, List.getElem?_set, if_pos rfl, if_pos (by omega)]
    rfl
theorem may_key {n : Nat} {c : Wr} (h : mayS n c = true) : keyS c.k = 0 := by
  unfold mayS at h
  simp only [Bool.and_eq_true, decide_eq_true_eq] at h
  exact h.1
set_option maxRecDepth 100000 in
set_option maxHeartbeats 12800000 in
theorem chrows_c {w : World} {x x2 : Option Addr} {n1 cap m cap2 : Nat} {gs : List Grp} {l : List Wr} (hg : Grs w x n1 cap gs) (hs : ∀ g ∈ gs, g.1.length ≤ 9223372036854775807) (hl : Wrs w x2 m cap2 l) (hx : WShort l) (site seq n s a b : Int) :
    Calls Try.prog 86 #[.slice x n1 cap, .agg #[.int .i64 site, .int .i64 seq, .int .i64 n, .int .i64 s, .int .i64 a, .int .i64 b, .slice x2 m cap2]] w (RwsPost (chrowsS gs site seq n s a b l) n1 w) := by
  have hgl := hg.len
  have hgle := hg.le
  have hgmx := hg.max
  have hll := hl.len
  have hle2 := hl.le
  have hmax2 := hl.max
  have HGD := Lib.hid (fun W (h : Below w.heap.size w W) => chgood_c (hg.below h) hs (hl.below h) hx site seq n s a b)
  have HNW := Lib.hid (fun (hp : pgoodS gs = 0) (key : List UInt8) (hk : key.length ≤ 9223372036854775807) (hk0 : keyS key = 0) W (h : Below w.heap.size w W) => rownew_x (hg.below h) hs hp key hk hk0)
  have HIV := Lib.hid (@ch_inv gs site seq n s a b l)
  have HP := Lib.hid (show chgoodS gs site seq n s a b l = 0 → chrowsS gs site seq n s a b l = (wrowN gs n s a b l m, 0) from fun h => by unfold chrowsS; rw [if_pos h, hll])
  have HQ := Lib.hid (show ¬ chgoodS gs site seq n s a b l = 0 → chrowsS gs site seq n s a b l = ([], chgoodS gs site seq n s a b l) from fun h => by unfold chrowsS; rw [if_neg h])
  have HL := Lib.hid hl
  have HG := Lib.hid hg
  obtain ⟨RV, hRV⟩ : ∃ z, chrowsS gs site seq n s a b l = z := ⟨_, rfl⟩
  rw [hRV] at HP HQ ⊢
  obtain ⟨R, hR⟩ : ∃ z, chgoodS gs site seq n s a b l = z := ⟨_, rfl⟩
  rw [hR] at HP HQ HIV
  simp only [hR] at HGD
  have hr := heap_alloc_new w (.cells #[.int .i64 site, .int .i64 seq, .int .i64 n, .int .i64 s, .int .i64 a, .int .i64 b, .slice x2 m cap2] 95)
  have hb := alloc_below w (.cells #[.int .i64 site, .int .i64 seq, .int .i64 n, .int .i64 s, .int .i64 a, .int .i64 b, .slice x2 m cap2] 95)
  clear hRV hR hg hs hl hx
  go_enter Try.func86, Try.ntmps86
  go_upto_region 1 with (fail)
  obtain ⟨B, hB⟩ : ∃ q, w.heap.size = q := ⟨_, rfl⟩
  have HBe := Lib.hid hB
  rw [hB] at hr ⊢
  clear hB
  generalize w.alloc (.cells #[.int .i64 site, .int .i64 seq, .int .i64 n, .int .i64 s, .int .i64 a, .int .i64 b, .slice x2 m cap2] 95) = W1 at *
  obtain ⟨c0, c1, c2, c3, c4, c5, c6⟩ := ch_cells hr
  have HR1 := Lib.hid hr
  have HB1 := Lib.hid hb
  clear hr hb
  by_cases h0 : R = 0
  · subst h0
    have HRR := Lib.hid (HP.out (by first | rfl | trivial))
    obtain ⟨hp0, hhd, hall⟩ := HIV.out (by first | rfl | trivial)
    have hn4 := pgood_len hp0
    rw [hll] at hhd hall
    obtain ⟨-,-,-,-,-,-,-, hd4, hd5⟩ := head_ok hhd
    have HALL := Lib.hid hall
    have HNW := Lib.hid (HNW.out hp0)
    clear HP HQ HIV hp0 hall hhd
    go_upto_region 5 with (go_at_call 110; (with_reducible refine (HGD.out _ HB1.out).mono ?_); rintro e9 w2 ⟨rfl, hb2⟩)
    have HB2 := Lib.hid (HB1.out.trans (hb2.mono HB1.out.size))
    have HR2 := Lib.hid (heap_below HR1.out hb2)
    clear hb2 HR1 HB1 HGD c0 c1 c2 c3 c4 c5 c6
    obtain ⟨c0, c1, c2, c3, c4, c5, c6⟩ := ch_cells HR2.out
    go_upto_region 6 with (fail)
    clear c0 c1 c2 c3 c4 c5 c6
    go_loopw [7, 23] (fun o i wr => ∃ (k : Nat) (v : Value) (L : List Rw), k ≤ m ∧ i = .int .i64 (k : Int) ∧ o = v ∧ OwnRw wr w.heap.size n1 v L ∧ L.map Rw.pr = wrowN gs n s a b l k ∧ Below w.heap.size w wr ∧ wr.heap[B]? = some (.cells #[.int .i64 site, .int .i64 seq, .int .i64 n, .int .i64 s, .int .i64 a, .int .i64 b, .slice x2 m cap2] 95 (0, 0))) (fun _ i _ => m - (intOf i).toNat)
    case atStart => exact ⟨0, .slice none 0 0, [], by omega, rfl, rfl, OwnRw.nil _ _ _, rfl, HB2.out, HR2.out⟩
    case round =>
      clear HB2 HR2
      obtain ⟨k, v, L, hk, rfl, rfl, ho, hpr, hb, hr⟩ := hrel
      obtain ⟨c0, c1, c2, c3, c4, c5, c6⟩ := ch_cells hr
      have hfew := wrow_few gs n s a b l k
      rw [← hpr, List.length_map] at hfew
      obtain ⟨al, cl, ev, -⟩ := ho.at
      obtain ⟨ll, hLL⟩ : ∃ z, L.length = z := ⟨_, rfl⟩
      rw [hLL] at hfew ev
      subst ev
      have HLL := Lib.hid hLL
      have HO := Lib.hid ho
      have HPR := Lib.hid hpr
      have HBr := Lib.hid hb
      have HRr := Lib.hid hr
      clear hLL ho hpr hb hr
      by_cases hlt : k < m
      · have hki : (k : Int) < (m : Int) := by omega
        have hkc : (k : Int) < (cap2 : Int) := by omega
        obtain ⟨bl, offl, rfl, hat⟩ := HL.out.place hlt
        obtain ⟨f1, -, f2, f3, f4, -⟩ := may_few (w_at (HALL.out k hlt))
        have f5 := may_key (w_at (HALL.out k hlt))
        have HN := Lib.hid (show wrowN gs n s a b l (k + 1) = rowPut gs.length (wrowN gs n s a b l k) (l.getD k Wr.zero).k (l.getD k Wr.zero).i.toNat (cofS (gs.getD (l.getD k Wr.zero).i.toNat ([], 0)).2 n s a b (l.getD k Wr.zero).g (l.getD k Wr.zero).v).1 from rfl)
        obtain ⟨y, hy⟩ : ∃ y, l.getD k Wr.zero = y := ⟨_, rfl⟩
        rw [hy] at hat HN f1 f2 f3 f4 f5
        obtain ⟨kx, ix, gx, vx⟩ := y
        simp only at hat HN f1 f2 f3 f4 f5
        obtain ⟨ii, rfl⟩ : ∃ ii : Nat, ix = (ii : Int) := ⟨ix.toNat, by omega⟩
        rw [Int.toNat_natCast, ← HPR.out, hgl] at HN
        have hii : ii < n1 := by omega
        have hiic : (ii : Int) < (cap : Int) := by omega
        have hiin : (ii : Int) < (n1 : Int) := by omega
        obtain ⟨bg, og, rfl, hgat⟩ := HG.out.at hii
        obtain ⟨⟨gn, pk⟩, hgn⟩ : ∃ z, gs.getD ii ([], 0) = z := ⟨_, rfl⟩
        rw [hgn] at hgat HN
        simp only at hgat HN
        obtain ⟨n9, s9, a9, b9, g9, t9, d9, e9, f9, hof, hcof⟩ := cof_x pk n s a b gx vx (by omega)
        rw [hof] at HN
        have HCO := Lib.hid hcof
        have HNEW := Lib.hid (HNW.out kx (by omega) f5)
        have HAT := Lib.hid (hat _ HBr.out)
        have HGT := Lib.hid hgat
        clear hat hgat hcof hof hgn hy f1 f2 f3 f4 f5
        obtain ⟨l0, l1, l2, l3⟩ := HAT.out
        go_upto_region 8 with (fail)
        clear c0 c1 c2 c3 c4 c5 c6 l0 l1 l2 l3 HAT
        have hal := alloc_below wr (.cells #[.string (text kx), .int .i64 (ii : Int), .bool gx, .string (text vx)] 112)
        have HS9 := Lib.hid (heap_alloc_new wr (.cells #[.string (text kx), .int .i64 (ii : Int), .bool gx, .string (text vx)] 112))
        have HB9 := Lib.hid (HBr.out.trans (hal.mono HBr.out.size))
        have HR9 := Lib.hid (heap_below HRr.out hal)
        have HO9 := Lib.hid (HO.out.kept hal)
        obtain ⟨gw, hgw⟩ : ∃ z, wr.heap.size = z := ⟨_, rfl⟩
        have HGW := Lib.hid (show w.heap.size ≤ gw by rw [← hgw]; exact HBr.out.size)
        rw [hgw] at HS9 ⊢
        generalize wr.alloc (.cells #[.string (text kx), .int .i64 (ii : Int), .bool gx, .string (text vx)] 112) = W9 at *
        clear hal hgw HBr HRr HO
        have hn0 : 0 < n1 := by omega
        have hklt : ll ≤ 8 := by omega
        by_cases hl0 : k = 0
        · have HZ0 := Lib.hid (show ((k : Int) == 0) = true by simp [hl0])
          have HL0 := Lib.hid (show ll = 0 by have h := HPR.out; rw [hl0] at h; have h := congrArg List.length h; rw [List.length_map, HLL.out] at h; exact h)
          clear hl0
          refine wp_region_flow [none,none,none,none,none,none,none,none,none,none,none,none,none,none,none,none,none,none,none,none,none,none,none,none,none,none,none,none, some 0, some 1, some 2, some 3, some 4, some 5, some 6, some 7, some 8, some 9, some 10, some 11, some 12, some 13, none,none,none,none,none,none,none,none,none,none,none,none,none,none,none,none,none,none,none,none,none,none,none,none,none,none,none,none,none,none,none,none,none,none,none,none,none,none,none,none,none,none] (fun i => [u28, u29, u30, u31, u32, u33, u34, u35, u36, u37, u38, u39, u40, u41].getD i undef) [(fun v _ => v = .int .i64 (k : Int)), (fun v _ => v = .bool true), (fun v _ => v = .bool true), (fun v _ => v = undef), (fun v _ => v = undef), (fun v _ => v = undef), (fun v _ => v = undef), (fun v _ => v = undef), (fun v _ => v = undef), (fun v _ => v = undef), (fun v _ => v = undef), (fun v _ => v = undef), (fun v _ => v = undef), (fun v _ => v = .bool true)] (by kernel_rfl) (by kernel_rfl) rfl rfl rfl ?_ ?_ ?_
          · intro g hg v X Y hX hY hv
            simp only [List.mem_cons, List.not_mem_nil, or_false] at hg
            rcases hg with rfl | rfl | rfl | rfl | rfl | rfl | rfl | rfl | rfl | rfl | rfl | rfl | rfl | rfl
            all_goals first
              | exact hv
              | exact hv.kept hY
          · simp only [flowOps, and_true]
            refine ⟨?_,?_,?_,?_,?_,?_,?_,?_,?_,?_,?_,?_,?_,?_⟩
            · intro xs W hW hn
              simp only [flowAct, zwc, zwn]
              go_wp2_with (fail)
              exact ⟨rfl, _, rfl, Below.refl _ _, rfl⟩
            · intro xs W hW hn
              have hz := HZ0.out
              simp [flowNeeds, Region.binds] at hn
              simp only [flowAct, zwc, zwn]
              try simp only [hn]
              go_wp2_with (fail)
              exact ⟨rfl, _, rfl, Below.refl _ _, rfl⟩
            · intro xs W hW hn
              simp [flowNeeds, Region.binds] at hn
              simp only [flowAct, zwc, zwn]
              try simp only [hn]
              go_wp2_with (fail)
              exact ⟨rfl, _, rfl, Below.refl _ _, rfl⟩
            · intro xs W hW hn
              simp [flowNeeds, Region.binds] at hn
              simp only [flowAct, zwc, zwn]
              try simp only [hn]
              go_wp2_with (fail)
              exact ⟨rfl, _, rfl, Below.refl _ _, rfl⟩
            · intro xs W hW hn
              simp [flowNeeds, Region.binds] at hn
              simp only [flowAct, zwc, zwn]
              try simp only [hn]
              go_wp2_with (fail)
              exact ⟨rfl, _, rfl, Below.refl _ _, rfl⟩
            · intro xs W hW hn
              simp [flowNeeds, Region.binds] at hn
              simp only [flowAct, zwc, zwn]
              try simp only [hn]
              go_wp2_with (fail)
              exact ⟨rfl, _, rfl, Below.refl _ _, rfl⟩
            · intro xs W hW hn
              simp [flowNeeds, Region.binds] at hn
              simp only [flowAct, zwc, zwn]
              try simp only [hn]
              go_wp2_with (fail)
              exact ⟨rfl, _, rfl, Below.refl _ _, rfl⟩
            · intro xs W hW hn
              simp [flowNeeds, Region.binds] at hn
              simp only [flowAct, zwc, zwn]
              try simp only [hn]
              go_wp2_with (fail)
              exact ⟨rfl, _, rfl, Below.refl _ _, rfl⟩
            · intro xs W hW hn
              simp [flowNeeds, Region.binds] at hn
              simp only [flowAct, zwc, zwn]
              try simp only [hn]
              go_wp2_with (fail)
              exact ⟨rfl, _, rfl, Below.refl _ _, rfl⟩
            · intro xs W hW hn
              simp [flowNeeds, Region.binds] at hn
              simp only [flowAct, zwc, zwn]
              try simp only [hn]
              go_wp2_with (fail)
              exact ⟨rfl, _, rfl, Below.refl _ _, rfl⟩
            · intro xs W hW hn
              simp [flowNeeds, Region.binds] at hn
              simp only [flowAct, zwc, zwn]
              try simp only [hn]
              go_wp2_with (fail)
              exact ⟨rfl, _, rfl, Below.refl _ _, rfl⟩
            · intro xs W hW hn
              simp [flowNeeds, Region.binds] at hn
              simp only [flowAct, zwc, zwn]
              try simp only [hn]
              go_wp2_with (fail)
              exact ⟨rfl, _, rfl, Below.refl _ _, rfl⟩
            · intro xs W hW hn
              simp [flowNeeds, Region.binds] at hn
              simp only [flowAct, zwc, zwn]
              try simp only [hn]
              go_wp2_with (fail)
              exact ⟨rfl, _, rfl, Below.refl _ _, rfl⟩
            · intro xs W hW hn
              simp [flowNeeds, Region.binds] at hn
              simp only [flowAct, zwc, zwn]
              try simp only [hn]
              go_wp2_with (fail)
              exact ⟨rfl, _, rfl, Below.refl _ _, rfl⟩
          · intro xs W hW hall
            simp only [flowAll, and_true, Nat.zero_add, Nat.reduceAdd] at hall
            obtain ⟨-,-,-,-,-,-,-,-,-,-,-,-,-, eL⟩ := hall
            simp only [flowAct, zwc, zwn]
            simp only [eL]
            have hbk := HB9.out.trans (hW.mono HB9.out.size)
            have hrk := heap_below HR9.out hW
            have hsk := heap_below HS9.out hW
            have hok := HO9.out.kept hW
            clear eL
            obtain ⟨WK, hWK⟩ : ∃ X, W = X := ⟨_, rfl⟩
            rw [hWK] at hbk hrk hsk hok ⊢
            clear hWK hW HB9 HR9 HS9 HO9
            have HBT := Lib.hid hbk
            have HRT := Lib.hid hrk
            have HST := Lib.hid hsk
            have HOT := Lib.hid hok
            clear hbk hrk hsk hok
            obtain ⟨w0, w1, w2, w3⟩ := wr_cells HST.out
            have hzl : (zerosC n1).length = n1 := by simp [zerosC]
            have HZL := Lib.hid hzl
            go_upto_region 10 with (go_at_call 111; (with_reducible refine (HNEW.out _ HBT.out).mono ?_); rintro e9 w4 ⟨u, rfl, hou, hb4⟩; obtain ⟨gc, cc, rfl, hgcB, hccl, hgclt⟩ := own_some hou (by rw [HZL.out]; omega); rw [HZL.out] at hou hccl ⊢)
            have hal4 := alloc_below w4 (.cells #[.string (text kx), .slice (some ⟨gc, 0, none⟩) n1 cc] 30)
            have hqr := heap_alloc_new w4 (.cells #[.string (text kx), .slice (some ⟨gc, 0, none⟩) n1 cc] 30)
            have hb5 := hb4.trans (hal4.mono hb4.size)
            have HB5 := Lib.hid (HBT.out.trans (hb5.mono HBT.out.size))
            have HR5 := Lib.hid (heap_below HRT.out hb5)
            have HS5 := Lib.hid (heap_below HST.out hb5)
            have HO5 := Lib.hid (HOT.out.kept hb5)
            have HOU := Lib.hid (hou.kept hal4)
            have HLTB := Lib.hid hb5.size
            have HBT2 := Lib.hid (Nat.le_trans HBT.out.size hgcB)
            obtain ⟨qr, hqr2⟩ : ∃ z, w4.heap.size = z := ⟨_, rfl⟩
            rw [hqr2] at hqr
            try rw [hqr2]
            clear hal4 hb5 hb4 hou hgclt hqr2 w0 w1 w2 w3
            generalize w4.alloc (.cells #[.string (text kx), .slice (some ⟨gc, 0, none⟩) n1 cc] 30) = w5 at *
            obtain ⟨y0, y1⟩ := pair_cells hqr
            clear hqr
            go_upto_region 11 with (at_builtin; refine wpList_append_rw rfl _ _ rfl (u := .slice al ll cl) rfl HO5.out.row kx _ _ _ (zerosC n1) rfl (by rw [HLL.out]; omega) HB5.out.size ?_; intro v' w' ho' hg'; have hpush := HO5.out.push HZL.out HOU.out (by omega) HBT.out.size (fun j hj q hq => ((HOT.out.own j hj).1.lt q hq).2) _ ho' hg'; obtain ⟨at', ct', evt, -⟩ := hpush.at; rw [List.length_append, List.length_singleton, HLL.out] at evt; subst evt)
            have HB8 := Lib.hid ((HB5.out.alloc HB5.out.size (.cells #[.string (text kx), .slice (some ⟨gc, 0, none⟩) n1 cc] 30)).grown hg' (by simp; have := HB5.out.size; omega) (fun z e => (HO5.out.row.lt z e).1))
            have HR8 := Lib.hid (heap_grown ((Below.heap_alloc w5 (.cells #[.string (text kx), .slice (some ⟨gc, 0, none⟩) n1 cc] 30) B (Array.getElem?_eq_some_iff.1 HR5.out).1).trans HR5.out) hg' (own_ne HR5.out (by decide) HO5.out.row))
            have HS8 := Lib.hid (heap_grown ((Below.heap_alloc w5 (.cells #[.string (text kx), .slice (some ⟨gc, 0, none⟩) n1 cc] 30) gw (Array.getElem?_eq_some_iff.1 HS5.out).1).trans HS5.out) hg' (own_ne HS5.out (by decide) HO5.out.row))
            have HO8 := Lib.hid hpush
            have HLP := Lib.hid (show (L ++ [(⟨kx, .slice (some ⟨gc, 0, none⟩) n1 cc, zerosC n1⟩ : Rw)]).getD ll Rw.zero = ⟨kx, .slice (some ⟨gc, 0, none⟩) n1 cc, zerosC n1⟩ by rw [getD_push, HLL.out]; simp)
            have HPUT := Lib.hid (show ((L ++ [(⟨kx, .slice (some ⟨gc, 0, none⟩) n1 cc, zerosC n1⟩ : Rw)]).set ll (⟨kx, .slice (some ⟨gc, 0, none⟩) n1 cc, (zerosC n1).set ii ⟨n9, s9, a9, b9, g9, t9, d9, e9⟩⟩ : Rw)).map Rw.pr = wrowN gs n s a b l (k + 1) by rw [HN.out, ← HLL.out]; exact put_new rfl (.inl (HLL.out.trans HL0.out)))
            have HTL := Lib.hid (show (L ++ [(⟨kx, .slice (some ⟨gc, 0, none⟩) n1 cc, zerosC n1⟩ : Rw)]).length = ll + 1 by rw [List.length_append, HLL.out]; rfl)
            obtain ⟨br, offr, eat, hct1, hct2, hcl8, hoc8, hcs8⟩ := HO8.out.last HTL.out HLP.out
            subst eat
            have HLC8 := Lib.hid hcl8
            have HOC8 := Lib.hid hoc8
            have HCS8 := Lib.hid hcs8
            clear hcl8 hoc8 hcs8 hpush ho' hg' HOU HO5 HS5 HR5 HB5 HOT HST HRT HBT y0 y1
            obtain ⟨LT, hLT⟩ : ∃ z, (L ++ [(⟨kx, .slice (some ⟨gc, 0, none⟩) n1 cc, zerosC n1⟩ : Rw)]) = z := ⟨_, rfl⟩
            rw [hLT] at HO8 HLP HPUT HTL
            clear hLT
            obtain ⟨CS, hCS⟩ : ∃ z, zerosC n1 = z := ⟨_, rfl⟩
            rw [hCS] at HLP HPUT HOC8 HCS8
            clear hCS
            have HGC := Lib.hid (show w.heap.size ≤ gc by have := HBT2.out; omega)
            obtain ⟨M9, hM9⟩ : ∃ z, ll + 1 = z := ⟨_, rfl⟩
            rw [hM9] at HO8 hct1 ⊢
            have HM9 := Lib.hid (show (M9 : Int) - 1 = ((ll : Nat) : Int) by omega)
            have hM8 : ((ll : Nat) : Int) < (M9 : Int) := by omega
            have hM7 : ((ll : Nat) : Int) < (ct' : Int) := by omega
            have HMM := Lib.hid hM9
            clear hM9
            have HGS := Lib.hid (show GSt 79 (fun i v _ => v = [.slice (some ⟨bg, og, none⟩) n1 cap, .pointer (some ⟨gw, 1, none⟩), .int .i64 (ii : Int), .pointer (some ⟨bg, og + ii * 2, none⟩), .pointer (some ⟨bg, og + ii * 2 + 1, none⟩), .int .i64 pk, .pointer (some ⟨B, 2, none⟩), .agg #[.int .i64 n, .int .i64 s], .pointer (some ⟨B, 4, none⟩), .agg #[.int .i64 a, .int .i64 b], .pointer (some ⟨gw, 2, none⟩), .bool gx, .pointer (some ⟨gw, 3, none⟩), .string (text vx), .tuple #[.agg #[.int .i64 n9, .int .i64 s9, .int .i64 a9, .int .i64 b9, .bool g9, .string (text t9), .int .i64 d9, .int .i64 e9], .int .i64 f9], .tuple #[.agg #[.int .i64 n9, .int .i64 s9, .int .i64 a9, .int .i64 b9, .bool g9, .string (text t9), .int .i64 d9, .int .i64 e9], .int .i64 f9], .agg #[.int .i64 n9, .int .i64 s9, .int .i64 a9, .int .i64 b9, .bool g9, .string (text t9), .int .i64 d9, .int .i64 e9], .int .i64 f9].getD i undef) from ⟨fun i v X Y h _ => h, fun i v X Y q cs ds _ _ h => h⟩)
            refine wp_region_inv [none,none,none,none,none,none,none,none,none,none,none,none, some 18, some 20, none,none,none,none,none,none,none,none,none,none,none,none,none,none,none,none,none,none,none,none,none,none,none,none,none,none,none,none,none,none,none,none,none,none,none,none,none,none,none, some 15, some 0, some 1, some 2, some 3, some 4, some 5, some 6, some 7, some 8, some 9, some 10, some 11, some 12, some 13, some 14, some 16, some 17, none,none,none,none,none,none,none,none,none,none,none,none,none] (fun i => [u54, u55, u56, u57, u58, u59, u60, u61, u62, u63, u64, u65, u66, u67, u68, u53, u69, u70, u12, undef, u13].getD i undef) (LayG 18 1 79 #[.int .i64 0, .int .i64 0, .int .i64 0, .int .i64 0, .bool false, .string ⟨#[]⟩, .int .i64 0, .int .i64 0] (fun i v _ => v = [.slice (some ⟨bg, og, none⟩) n1 cap, .pointer (some ⟨gw, 1, none⟩), .int .i64 (ii : Int), .pointer (some ⟨bg, og + ii * 2, none⟩), .pointer (some ⟨bg, og + ii * 2 + 1, none⟩), .int .i64 pk, .pointer (some ⟨B, 2, none⟩), .agg #[.int .i64 n, .int .i64 s], .pointer (some ⟨B, 4, none⟩), .agg #[.int .i64 a, .int .i64 b], .pointer (some ⟨gw, 2, none⟩), .bool gx, .pointer (some ⟨gw, 3, none⟩), .string (text vx), .tuple #[.agg #[.int .i64 n9, .int .i64 s9, .int .i64 a9, .int .i64 b9, .bool g9, .string (text t9), .int .i64 d9, .int .i64 e9], .int .i64 f9], .tuple #[.agg #[.int .i64 n9, .int .i64 s9, .int .i64 a9, .int .i64 b9, .bool g9, .string (text t9), .int .i64 d9, .int .i64 e9], .int .i64 f9], .agg #[.int .i64 n9, .int .i64 s9, .int .i64 a9, .int .i64 b9, .bool g9, .string (text t9), .int .i64 d9, .int .i64 e9], .int .i64 f9].getD i undef) (fun _ => 16) w') (by kernel_rfl) (by kernel_rfl) rfl rfl (fun LL hL => LayG.start fun i hi => hL i (Nat.lt_of_lt_of_le hi (by decide))) ?_ ?_
            · simp only [invOps, and_true]
              refine ⟨?_,?_,?_,?_,?_,?_,?_,?_,?_,?_,?_,?_,?_,?_,?_,?_,?_,?_,?_,?_,?_⟩
              · intro LL xs W hI hL hn
                simp only [flowAct, zwc, zwn]
                go_wp2_with (fail)
                exact ⟨rfl, _, rfl, hI.set HGS.out 0 (by decide) (Below.refl _ _) rfl⟩
              · intro LL xs W hI hL hn
                simp only [flowAct, zwc, zwn]
                go_wp2_with (fail)
                exact ⟨rfl, _, rfl, hI.set HGS.out 1 (by decide) (Below.refl _ _) rfl⟩
              · intro LL xs W hI hL hn
                obtain ⟨w0, w1, w2, w3⟩ := wr_cells (heap_below HS8.out hI.below)
                simp [invNeeds, Region.binds] at hn
                have e1 : xs 1 = .pointer (some ⟨gw, 1, none⟩) := hI.2.1 1 (by decide) (by simp only [hn])
                simp only [flowAct, zwc, zwn]
                simp only [e1]
                go_wp2_with (fail)
                exact ⟨rfl, _, rfl, hI.set HGS.out 2 (by decide) (Below.refl _ _) rfl⟩
              · intro LL xs W hI hL hn
                simp [invNeeds, Region.binds] at hn
                have e0 : xs 0 = .slice (some ⟨bg, og, none⟩) n1 cap := hI.2.1 0 (by decide) (by simp only [hn])
                have e2 : xs 2 = .int .i64 (ii : Int) := hI.2.1 2 (by decide) (by simp only [hn])
                simp only [flowAct, zwc, zwn]
                simp only [e0, e2]
                go_wp2_with (fail)
                exact ⟨rfl, _, rfl, hI.set HGS.out 3 (by decide) (Below.refl _ _) rfl⟩
              · intro LL xs W hI hL hn
                simp [invNeeds, Region.binds] at hn
                have e3 : xs 3 = .pointer (some ⟨bg, og + ii * 2, none⟩) := hI.2.1 3 (by decide) (by simp only [hn])
                simp only [flowAct, zwc, zwn]
                simp only [e3]
                go_wp2_with (fail)
                exact ⟨rfl, _, rfl, hI.set HGS.out 4 (by decide) (Below.refl _ _) rfl⟩
              · intro LL xs W hI hL hn
                obtain ⟨g0, g1⟩ := HGT.out W (HB8.out.trans (hI.below.mono HB8.out.size))
                simp [invNeeds, Region.binds] at hn
                have e4 : xs 4 = .pointer (some ⟨bg, og + ii * 2 + 1, none⟩) := hI.2.1 4 (by decide) (by simp only [hn])
                simp only [flowAct, zwc, zwn]
                simp only [e4]
                go_wp2_with (fail)
                exact ⟨rfl, _, rfl, hI.set HGS.out 5 (by decide) (Below.refl _ _) rfl⟩
              · intro LL xs W hI hL hn
                simp only [flowAct, zwc, zwn]
                go_wp2_with (fail)
                exact ⟨rfl, _, rfl, hI.set HGS.out 6 (by decide) (Below.refl _ _) rfl⟩
              · intro LL xs W hI hL hn
                obtain ⟨c0, c1, c2, c3, c4, c5, c6⟩ := ch_cells (heap_below HR8.out hI.below)
                simp [invNeeds, Region.binds] at hn
                have e6 : xs 6 = .pointer (some ⟨B, 2, none⟩) := hI.2.1 6 (by decide) (by simp only [hn])
                simp only [flowAct, zwc, zwn]
                simp only [e6]
                go_wp2_with (fail)
                exact ⟨rfl, _, rfl, hI.set HGS.out 7 (by decide) (Below.refl _ _) rfl⟩
              · intro LL xs W hI hL hn
                simp only [flowAct, zwc, zwn]
                go_wp2_with (fail)
                exact ⟨rfl, _, rfl, hI.set HGS.out 8 (by decide) (Below.refl _ _) rfl⟩
              · intro LL xs W hI hL hn
                obtain ⟨c0, c1, c2, c3, c4, c5, c6⟩ := ch_cells (heap_below HR8.out hI.below)
                simp [invNeeds, Region.binds] at hn
                have e8 : xs 8 = .pointer (some ⟨B, 4, none⟩) := hI.2.1 8 (by decide) (by simp only [hn])
                simp only [flowAct, zwc, zwn]
                simp only [e8]
                go_wp2_with (fail)
                exact ⟨rfl, _, rfl, hI.set HGS.out 9 (by decide) (Below.refl _ _) rfl⟩
              · intro LL xs W hI hL hn
                simp only [flowAct, zwc, zwn]
                go_wp2_with (fail)
                exact ⟨rfl, _, rfl, hI.set HGS.out 10 (by decide) (Below.refl _ _) rfl⟩
              · intro LL xs W hI hL hn
                obtain ⟨w0, w1, w2, w3⟩ := wr_cells (heap_below HS8.out hI.below)
                simp [invNeeds, Region.binds] at hn
                have e10 : xs 10 = .pointer (some ⟨gw, 2, none⟩) := hI.2.1 10 (by decide) (by simp only [hn])
                simp only [flowAct, zwc, zwn]
                simp only [e10]
                go_wp2_with (fail)
                exact ⟨rfl, _, rfl, hI.set HGS.out 11 (by decide) (Below.refl _ _) rfl⟩
              · intro LL xs W hI hL hn
                simp only [flowAct, zwc, zwn]
                go_wp2_with (fail)
                exact ⟨rfl, _, rfl, hI.set HGS.out 12 (by decide) (Below.refl _ _) rfl⟩
              · intro LL xs W hI hL hn
                obtain ⟨w0, w1, w2, w3⟩ := wr_cells (heap_below HS8.out hI.below)
                simp [invNeeds, Region.binds] at hn
                have e12 : xs 12 = .pointer (some ⟨gw, 3, none⟩) := hI.2.1 12 (by decide) (by simp only [hn])
                simp only [flowAct, zwc, zwn]
                simp only [e12]
                go_wp2_with (fail)
                exact ⟨rfl, _, rfl, hI.set HGS.out 13 (by decide) (Below.refl _ _) rfl⟩
              · intro LL xs W hI hL hn
                simp [invNeeds, Region.binds] at hn
                have e5 : xs 5 = .int .i64 pk := hI.2.1 5 (by decide) (by simp only [hn])
                have e7 : xs 7 = .agg #[.int .i64 n, .int .i64 s] := hI.2.1 7 (by decide) (by simp only [hn])
                have e9 : xs 9 = .agg #[.int .i64 a, .int .i64 b] := hI.2.1 9 (by decide) (by simp only [hn])
                have e11 : xs 11 = .bool gx := hI.2.1 11 (by decide) (by simp only [hn])
                have e13 : xs 13 = .string (text vx) := hI.2.1 13 (by decide) (by simp only [hn])
                simp only [flowAct, zwc, zwn]
                simp only [e5, e7, e9, e11, e13]
                go_wp2_with (go_at_call 112; (with_reducible refine (HCO.out _).mono ?_); rintro e9 w9 ⟨rfl, hb9⟩)
                exact ⟨rfl, _, rfl, hI.set HGS.out 14 (by decide) hb9 rfl⟩
              · intro LL xs W hI hL hn
                simp [invNeeds, Region.binds] at hn
                have e14 : xs 14 = .tuple #[.agg #[.int .i64 n9, .int .i64 s9, .int .i64 a9, .int .i64 b9, .bool g9, .string (text t9), .int .i64 d9, .int .i64 e9], .int .i64 f9] := hI.2.1 14 (by decide) (by simp only [hn])
                simp only [flowAct, zwc, zwn]
                simp only [e14]
                go_wp2_with (fail)
                exact ⟨rfl, _, rfl, hI.set HGS.out 15 (by decide) (Below.refl _ _) rfl⟩
              · intro LL xs W hI hL hn
                simp [invNeeds, Region.binds] at hn
                have e15 : xs 15 = .tuple #[.agg #[.int .i64 n9, .int .i64 s9, .int .i64 a9, .int .i64 b9, .bool g9, .string (text t9), .int .i64 d9, .int .i64 e9], .int .i64 f9] := hI.2.1 15 (by decide) (by simp only [hn])
                simp only [flowAct, zwc, zwn]
                simp only [e15]
                go_wp2_with (fail)
                exact ⟨rfl, _, rfl, hI.set HGS.out 16 (by decide) (Below.refl _ _) rfl⟩
              · intro LL xs W hI hL hn
                simp [invNeeds, Region.binds] at hn
                have e15 : xs 15 = .tuple #[.agg #[.int .i64 n9, .int .i64 s9, .int .i64 a9, .int .i64 b9, .bool g9, .string (text t9), .int .i64 d9, .int .i64 e9], .int .i64 f9] := hI.2.1 15 (by decide) (by simp only [hn])
                simp only [flowAct, zwc, zwn]
                simp only [e15]
                go_wp2_with (fail)
                exact ⟨rfl, _, rfl, hI.set HGS.out 17 (by decide) (Below.refl _ _) rfl⟩
              · intro LL xs W hI hL hn
                simp only [flowAct, zwc, zwn]
                go_wp2_with (fail)
                exact ⟨rfl, _, rfl, hI.alloc HGS.out 0 (by decide) rfl hL⟩
              · intro LL xs W hI hL hn
                simp [invNeeds, Region.binds] at hn
                obtain ⟨hk, hv⟩ : LL 18 = true ∧ LL 16 = true := by simp only [hn, and_self]
                obtain ⟨g5, cs5, eg, lg, hgc, hz5⟩ := hI.2.2.1 0 (by decide) hk
                rw [if_neg (by rw [show LL (18 + 1 + 0) = false from hL]; decide)] at hz5
                subst hz5
                have e0 : xs 16 = .agg #[.int .i64 n9, .int .i64 s9, .int .i64 a9, .int .i64 b9, .bool g9, .string (text t9), .int .i64 d9, .int .i64 e9] := hI.2.1 16 (by decide) hv
                have e1 : xs 18 = .pointer (some ⟨g5, 0, none⟩) := eg
                have hc5 : Cel W g5 0 0 0 0 false [] 0 0 := hgc
                obtain ⟨p0, p1, p2, p3, p4, p5, p6, p7⟩ := hc5.cs
                have pfz := hc5.fz
                simp only [flowAct, zwc, zwn]
                simp only [e0, e1]
                go_wp2_with (fail)
                exact ⟨rfl, undef, rfl, hI.store HGS.out 0 (by decide) rfl rfl hk eg rfl (Wrote.cell8 hc5 n9 s9 a9 b9 g9 t9 d9 e9) undef⟩
              · intro LL xs W hI hL hn
                simp [invNeeds, Region.binds] at hn
                have e17 : xs 17 = .int .i64 f9 := hI.2.1 17 (by decide) (by simp only [hn])
                simp only [flowAct, zwc, zwn]
                simp only [e17]
                go_wp2_with (fail)
                exact ⟨rfl, _, rfl, hI.other 20 (by decide) _⟩
            · intro LL xs W hI hall
              obtain ⟨hW, -, hP, -,-⟩ := hI
              obtain ⟨gx9, cs7, e7, l7, h7, g7⟩ := hP 0 (by decide) (hall 18 (by decide))
              rw [if_pos (hall (18 + 1 + 0) (by decide))] at g7
              have g7 : Value.agg cs7 = .agg #[.int .i64 n9, .int .i64 s9, .int .i64 a9, .int .i64 b9, .bool g9, .string (text t9), .int .i64 d9, .int .i64 e9] := g7
              injection g7 with g7
              subst g7
              clear g7
              replace e7 : xs 18 = _ := e7
              clear hP hall
              simp only [flowAct, zwc, zwn]
              simp only [e7]
              have hbk := HB8.out.trans (hW.mono HB8.out.size)
              have hrk := heap_below HR8.out hW
              have hsk := heap_below HS8.out hW
              have hok := HO8.out.kept hW
              have hoc := HOC8.out.kept hW
              have hlc := fun W' (h : Below W.heap.size W W') => HLC8.out W' (hW.trans (h.mono hW.size))
              have hce : Cel W gx9 n9 s9 a9 b9 g9 t9 d9 e9 := h7
              clear e7 h7 hW HGS HGT
              obtain ⟨WK, hWK⟩ : ∃ X, W = X := ⟨_, rfl⟩
              rw [hWK] at hbk hrk hsk hok hoc hlc hce ⊢
              clear hWK HB8 HR8 HS8 HO8 HOC8 HLC8
              have HB7 := Lib.hid hbk
              have HR7 := Lib.hid hrk
              have HS7 := Lib.hid hsk
              have HO7 := Lib.hid hok
              have HOC7 := Lib.hid hoc
              have HLC7 := Lib.hid hlc
              have HCE := Lib.hid hce
              clear hbk hrk hsk hok hoc hlc hce
              go_upto_region 12 with (fail)
              refine wp_region_flow_tail 10 [none,none,none,none,none,none,none,none,none,none,none,none,none,none,none,none,none,none,none,none,none,none,none,none,none,none,none,none,none,none,none,none,none,none,none,none,none,none,none,none,none,none,none,none,none,none,none,none,none,none,none,none,none,none,none,none,none,none,none,none,none,none,none,none,none,none,none,none,none,none,none, some 0, some 1, some 2, some 3, some 4, some 5, some 6, some 7, some 8, some 9, none,none,none] (fun i => [u71, u72, u73, u74, u75, u76, u77, u78, u79, u80].getD i undef) [(fun v _ => v = .slice (some ⟨br, offr, none⟩) M9 ct'), (fun v _ => v = .slice (some ⟨br, offr, none⟩) M9 ct'), (fun v _ => v = .int .i64 (M9 : Int)), (fun v _ => v = .int .i64 ((ll : Nat) : Int)), (fun v _ => v = .pointer (some ⟨br, offr + ll * 2, none⟩)), (fun v _ => v = .pointer (some ⟨br, offr + ll * 2 + 1, none⟩)), (fun v _ => v = .slice (some ⟨gc, 0, none⟩) n1 cc), (fun v _ => v = .pointer (some ⟨gw, 1, none⟩)), (fun v _ => v = .int .i64 (ii : Int)), (fun v _ => v = .agg #[.int .i64 n9, .int .i64 s9, .int .i64 a9, .int .i64 b9, .bool g9, .string (text t9), .int .i64 d9, .int .i64 e9])] (fun _ => False) (by kernel_rfl) (by kernel_rfl) (by kernel_rfl) rfl rfl rfl ?_ ?_ ?_
              · intro g hg v X Y hX hY hv
                simp only [List.mem_cons, List.not_mem_nil, or_false] at hg
                rcases hg with rfl | rfl | rfl | rfl | rfl | rfl | rfl | rfl | rfl | rfl
                all_goals first
                  | exact hv
                  | exact hv.kept hY
              · simp only [flowOpsF, List.take_succ_cons, List.take_zero, and_true]
                refine ⟨?_,?_,?_,?_,?_,?_,?_,?_,?_,?_⟩
                · intro xs W hW hn
                  simp only [flowAct, zwc, zwn]
                  go_wp2_with (fail)
                  exact ⟨rfl, _, rfl, Below.refl _ _, rfl, fun h => h.elim⟩
                · intro xs W hW hn
                  simp only [flowAct, zwc, zwn]
                  go_wp2_with (fail)
                  exact ⟨rfl, _, rfl, Below.refl _ _, rfl, fun h => h.elim⟩
                · intro xs W hW hn
                  simp [flowNeeds, Region.binds] at hn
                  simp only [flowAct, zwc, zwn]
                  try simp only [hn]
                  go_wp2_with (fail)
                  exact ⟨rfl, _, rfl, Below.refl _ _, rfl, fun h => h.elim⟩
                · intro xs W hW hn
                  have hm9 := HM9.out
                  simp [flowNeeds, Region.binds] at hn
                  simp only [flowAct, zwc, zwn]
                  simp only [hn]
                  go_wp2_with (fail)
                  exact ⟨rfl, _, rfl, Below.refl _ _, by first | rfl | go_num, fun h => h.elim⟩
                · intro xs W hW hn
                  simp [flowNeeds, Region.binds] at hn
                  simp only [flowAct, zwc, zwn]
                  try simp only [hn]
                  go_wp2_with (fail)
                  exact ⟨rfl, _, rfl, Below.refl _ _, rfl, fun h => h.elim⟩
                · intro xs W hW hn
                  simp [flowNeeds, Region.binds] at hn
                  simp only [flowAct, zwc, zwn]
                  try simp only [hn]
                  go_wp2_with (fail)
                  exact ⟨rfl, _, rfl, Below.refl _ _, rfl, fun h => h.elim⟩
                · intro xs W hW hn
                  obtain ⟨r0, r1⟩ := HLC7.out W hW
                  simp [flowNeeds, Region.binds] at hn
                  simp only [flowAct, zwc, zwn]
                  try simp only [hn]
                  go_wp2_with (fail)
                  exact ⟨rfl, _, rfl, Below.refl _ _, rfl, fun h => h.elim⟩
                · intro xs W hW hn
                  simp only [flowAct, zwc, zwn]
                  go_wp2_with (fail)
                  exact ⟨rfl, _, rfl, Below.refl _ _, rfl, fun h => h.elim⟩
                · intro xs W hW hn
                  obtain ⟨w0, w1, w2, w3⟩ := wr_cells (heap_below HS7.out hW)
                  simp [flowNeeds, Region.binds] at hn
                  simp only [flowAct, zwc, zwn]
                  try simp only [hn]
                  go_wp2_with (fail)
                  exact ⟨rfl, _, rfl, Below.refl _ _, rfl, fun h => h.elim⟩
                · intro xs W hW hn
                  obtain ⟨p0, p1, p2, p3, p4, p5, p6, p7⟩ := (HCE.out.kept hW).cs
                  simp only [flowAct, zwc, zwn]
                  go_wp2_with (fail)
                  exact ⟨rfl, _, rfl, Below.refl _ _, rfl, fun h => h.elim⟩
              · intro xs W hW hall hfr
                clear hfr
                simp only [flowAll, and_true, Nat.zero_add, Nat.reduceAdd] at hall
                obtain ⟨-,-,-,-,-,-, y6, -, y8, y9⟩ := hall
                simp only [flowAct, zwc, zwn, List.drop_succ_cons, List.drop_zero]
                simp only [y6, y8, y9]
                have HBx := Lib.hid (HB7.out.trans (hW.mono HB7.out.size))
                have HRx := Lib.hid (heap_below HR7.out hW)
                have HOx := Lib.hid (HO7.out.kept hW)
                have HOCx := Lib.hid (HOC7.out.kept hW)
                have hlk : ii < CS.length := by have := HCS8.out; omega
                have HLK := Lib.hid hlk
                have pfz := own_fz HOCx.out
                obtain ⟨p0, p1, p2, p3, p4, p5, p6, p7⟩ := own_at HOCx.out hlk _ (Below.refl _ _)
                clear y6 y8 y9 hW hlk
                go_wp2
                go_roundw
                case rel => exact ⟨k + 1, _, LT.set ll ⟨kx, .slice (some ⟨gc, 0, none⟩) n1 cc, CS.set ii ⟨n9, s9, a9, b9, g9, t9, d9, e9⟩⟩, by omega, by go_num, rfl, (by have hst := OwnRw.store HOx.out (j := ll) (by rw [HTL.out]; omega) (by rw [HLP.out]; exact put_only (k := ii) n9 s9 a9 b9 g9 t9 d9 e9) (by rw [HLP.out]; exact own_put HOCx.out HLK.out n9 s9 a9 b9 g9 t9 d9 e9) (by rw [List.length_set]; exact HCS8.out) hn0; rw [HLP.out] at hst; exact hst), HPUT.out, cells_put_below (k := ii) HBx.out HGC.out n9 s9 a9 b9 g9 t9 d9 e9, ((put_only (g := gc) (m := n1) (c := cc) (k := ii) n9 s9 a9 b9 g9 t9 d9 e9).rest B (own_ne HRx.out (by decide) HOCx.out)).trans HRx.out⟩
                case measure => simp [intOf]; omega
            
        · obtain ⟨k1, hk1⟩ : ∃ k1, k = k1 + 1 := ⟨k - 1, by omega⟩
          have HK1 := Lib.hid (show (k : Int) - 1 = (k1 : Int) by omega)
          have hk1m : k1 < m := by omega
          have hk1i : (k1 : Int) < (m : Int) := by omega
          have hk1c : (k1 : Int) < (cap2 : Int) := by omega
          have hpr := HPR.out
          rw [hk1] at hpr
          obtain ⟨p, hp1, hp2⟩ := wrow_last gs n s a b l k1
          rw [← hpr, List.length_map, HLL.out] at hp1
          rw [← hpr, prs_at (by rw [HLL.out]; omega)] at hp2
          obtain ⟨⟨kp, ip, gp, vp⟩, hyp⟩ : ∃ z, l.getD k1 Wr.zero = z := ⟨_, rfl⟩
          obtain ⟨bl', offl', ebl, hatp⟩ := HL.out.place hk1m
          obtain ⟨rfl, rfl⟩ : bl = bl' ∧ offl = offl' := by injection ebl with e1; injection e1 with e2 e3; exact ⟨e2, e3⟩
          rw [hyp] at hatp hp2
          simp only at hatp hp2
          have HPV := Lib.hid hatp
          subst hp1
          have HZ0 := Lib.hid (show ((k : Int) == 0) = false by simp; omega)
          obtain ⟨⟨kl, ul, csl⟩, hlp⟩ : ∃ z, L.getD p Rw.zero = z := ⟨_, rfl⟩
          rw [hlp] at hp2
          replace hp2 : kl = kp := hp2
          subst hp2
          obtain ⟨br, offr, eal, hct1, hct2, hcl, hoc, hcs⟩ := HO9.out.last HLL.out hlp
          subst eal
          obtain ⟨gc, cc, rfl, hgcB, hccl, hgclt⟩ := own_some hoc (by omega)
          rw [hcs] at hccl hcl hoc hlp
          have HLP := Lib.hid hlp
          have HLC := Lib.hid hcl
          have HOC := Lib.hid hoc
          have HCS := Lib.hid hcs
          have hte := text_eqb kx kl
          obtain ⟨Q, hQ⟩ : ∃ z, (kx == kl) = z := ⟨_, rfl⟩
          rw [hQ] at hte
          have HTE := Lib.hid hte
          have HQ9 := Lib.hid hQ
          clear hlp hcl hoc hcs hte hQ hpr hyp hatp ebl hl0 hk1
          refine wp_region_flow [none,none,none,none,none,none,none,none,none,none,none,none,none,none,none,none,none,none,none,none,none,none,none,none,none,none,none,none, some 0, some 1, some 2, some 3, some 4, some 5, some 6, some 7, some 8, some 9, some 10, some 11, some 12, some 13, none,none,none,none,none,none,none,none,none,none,none,none,none,none,none,none,none,none,none,none,none,none,none,none,none,none,none,none,none,none,none,none,none,none,none,none,none,none,none,none,none,none] (fun i => [u28, u29, u30, u31, u32, u33, u34, u35, u36, u37, u38, u39, u40, u41].getD i undef) [(fun v _ => v = .int .i64 (k : Int)), (fun v _ => v = .bool false), (fun v _ => v = .bool false), (fun v _ => v = .pointer (some ⟨gw, 0, none⟩)), (fun v _ => v = .string (text kx)), (fun v _ => v = .pointer (some ⟨B, 6, none⟩)), (fun v _ => v = .slice (some ⟨bl, offl, none⟩) m cap2), (fun v _ => v = .int .i64 (k : Int)), (fun v _ => v = .int .i64 (k1 : Int)), (fun v _ => v = .pointer (some ⟨bl, offl + k1 * 4, none⟩)), (fun v _ => v = .pointer (some ⟨bl, offl + k1 * 4, none⟩)), (fun v _ => v = .string (text kl)), (fun v _ => v = .bool (!Q)), (fun v _ => v = .bool (!Q))] (by kernel_rfl) (by kernel_rfl) rfl rfl rfl ?_ ?_ ?_
          · intro g hg v X Y hX hY hv
            simp only [List.mem_cons, List.not_mem_nil, or_false] at hg
            rcases hg with rfl | rfl | rfl | rfl | rfl | rfl | rfl | rfl | rfl | rfl | rfl | rfl | rfl | rfl
            all_goals first
              | exact hv
              | exact hv.kept hY
          · simp only [flowOps, and_true]
            refine ⟨?_,?_,?_,?_,?_,?_,?_,?_,?_,?_,?_,?_,?_,?_⟩
            · intro xs W hW hn
              simp only [flowAct, zwc, zwn]
              go_wp2_with (fail)
              exact ⟨rfl, _, rfl, Below.refl _ _, rfl⟩
            · intro xs W hW hn
              have hz := HZ0.out
              simp [flowNeeds, Region.binds] at hn
              simp only [flowAct, zwc, zwn]
              simp only [hn]
              go_wp2_with (fail)
              exact ⟨rfl, _, rfl, Below.refl _ _, by go_num⟩
            · intro xs W hW hn
              simp [flowNeeds, Region.binds] at hn
              simp only [flowAct, zwc, zwn]
              try simp only [hn]
              go_wp2_with (fail)
              exact ⟨rfl, _, rfl, Below.refl _ _, rfl⟩
            · intro xs W hW hn
              simp [flowNeeds, Region.binds] at hn
              simp only [flowAct, zwc, zwn]
              try simp only [hn]
              go_wp2_with (fail)
              exact ⟨rfl, _, rfl, Below.refl _ _, rfl⟩
            · intro xs W hW hn
              obtain ⟨w0, w1, w2, w3⟩ := wr_cells (heap_below HS9.out hW)
              simp [flowNeeds, Region.binds] at hn
              simp only [flowAct, zwc, zwn]
              try simp only [hn]
              go_wp2_with (fail)
              exact ⟨rfl, _, rfl, Below.refl _ _, rfl⟩
            · intro xs W hW hn
              simp [flowNeeds, Region.binds] at hn
              simp only [flowAct, zwc, zwn]
              try simp only [hn]
              go_wp2_with (fail)
              exact ⟨rfl, _, rfl, Below.refl _ _, rfl⟩
            · intro xs W hW hn
              obtain ⟨-,-,-,-,-,-, c6⟩ := ch_cells (heap_below HR9.out hW)
              simp [flowNeeds, Region.binds] at hn
              simp only [flowAct, zwc, zwn]
              try simp only [hn]
              go_wp2_with (fail)
              exact ⟨rfl, _, rfl, Below.refl _ _, rfl⟩
            · intro xs W hW hn
              simp [flowNeeds, Region.binds] at hn
              simp only [flowAct, zwc, zwn]
              try simp only [hn]
              go_wp2_with (fail)
              exact ⟨rfl, _, rfl, Below.refl _ _, rfl⟩
            · intro xs W hW hn
              have hk1 := HK1.out
              simp [flowNeeds, Region.binds] at hn
              simp only [flowAct, zwc, zwn]
              simp only [hn]
              go_wp2_with (fail)
              exact ⟨rfl, _, rfl, Below.refl _ _, by go_num⟩
            · intro xs W hW hn
              simp [flowNeeds, Region.binds] at hn
              simp only [flowAct, zwc, zwn]
              try simp only [hn]
              go_wp2_with (fail)
              exact ⟨rfl, _, rfl, Below.refl _ _, rfl⟩
            · intro xs W hW hn
              simp [flowNeeds, Region.binds] at hn
              simp only [flowAct, zwc, zwn]
              try simp only [hn]
              go_wp2_with (fail)
              exact ⟨rfl, _, rfl, Below.refl _ _, rfl⟩
            · intro xs W hW hn
              obtain ⟨v0, v1, v2, v3⟩ := HPV.out W (HB9.out.trans (hW.mono HB9.out.size))
              simp [flowNeeds, Region.binds] at hn
              simp only [flowAct, zwc, zwn]
              try simp only [hn]
              go_wp2_with (fail)
              exact ⟨rfl, _, rfl, Below.refl _ _, rfl⟩
            · intro xs W hW hn
              have hte := HTE.out
              simp [flowNeeds, Region.binds] at hn
              simp only [flowAct, zwc, zwn]
              try simp only [hn]
              go_wp2_with (fail)
              exact ⟨rfl, _, rfl, Below.refl _ _, rfl⟩
            · intro xs W hW hn
              simp [flowNeeds, Region.binds] at hn
              simp only [flowAct, zwc, zwn]
              try simp only [hn]
              go_wp2_with (fail)
              exact ⟨rfl, _, rfl, Below.refl _ _, rfl⟩
          · intro xs W hW hall
            simp only [flowAll, and_true, Nat.zero_add, Nat.reduceAdd] at hall
            obtain ⟨-,-,-,-,-,-,-,-,-,-,-,-,-, eL⟩ := hall
            simp only [flowAct, zwc, zwn]
            simp only [eL]
            have hbk := HB9.out.trans (hW.mono HB9.out.size)
            have hrk := heap_below HR9.out hW
            have hsk := heap_below HS9.out hW
            have hok := HO9.out.kept hW
            clear eL
            have hct0 := fun W' (h : Below W.heap.size W W') => HLC.out W' (hW.trans (h.mono hW.size))
            have hoc0 := HOC.out.kept hW
            obtain ⟨WK, hWK⟩ : ∃ X, W = X := ⟨_, rfl⟩
            rw [hWK] at hbk hrk hsk hok hct0 hoc0 ⊢
            clear hWK hW HB9 HR9 HS9 HO9
            have HLCT := Lib.hid hct0
            have HOCT := Lib.hid hoc0
            clear hct0 hoc0
            have HBT := Lib.hid hbk
            have HRT := Lib.hid hrk
            have HST := Lib.hid hsk
            have HOT := Lib.hid hok
            clear hbk hrk hsk hok
            cases Q with
            | false =>
              obtain ⟨w0, w1, w2, w3⟩ := wr_cells HST.out
              have hzl : (zerosC n1).length = n1 := by simp [zerosC]
              have HZL := Lib.hid hzl
              go_upto_region 10 with (go_at_call 111; (with_reducible refine (HNEW.out _ HBT.out).mono ?_); rintro e9 w4 ⟨u, rfl, hou, hb4⟩; obtain ⟨gc, cc, rfl, hgcB, hccl, hgclt⟩ := own_some hou (by rw [HZL.out]; omega); rw [HZL.out] at hou hccl ⊢)
              have hal4 := alloc_below w4 (.cells #[.string (text kx), .slice (some ⟨gc, 0, none⟩) n1 cc] 30)
              have hqr := heap_alloc_new w4 (.cells #[.string (text kx), .slice (some ⟨gc, 0, none⟩) n1 cc] 30)
              have hb5 := hb4.trans (hal4.mono hb4.size)
              have HB5 := Lib.hid (HBT.out.trans (hb5.mono HBT.out.size))
              have HR5 := Lib.hid (heap_below HRT.out hb5)
              have HS5 := Lib.hid (heap_below HST.out hb5)
              have HO5 := Lib.hid (HOT.out.kept hb5)
              have HOU := Lib.hid (hou.kept hal4)
              have HLTB := Lib.hid hb5.size
              have HBT2 := Lib.hid (Nat.le_trans HBT.out.size hgcB)
              obtain ⟨qr, hqr2⟩ : ∃ z, w4.heap.size = z := ⟨_, rfl⟩
              rw [hqr2] at hqr
              try rw [hqr2]
              clear hal4 hb5 hb4 hou hgclt hqr2 w0 w1 w2 w3
              generalize w4.alloc (.cells #[.string (text kx), .slice (some ⟨gc, 0, none⟩) n1 cc] 30) = w5 at *
              obtain ⟨y0, y1⟩ := pair_cells hqr
              clear hqr
              go_upto_region 11 with (at_builtin; refine wpList_append_rw rfl _ _ rfl (u := .slice (some ⟨br, offr, none⟩) (p + 1) cl) rfl HO5.out.row kx _ _ _ (zerosC n1) rfl (by rw [HLL.out]; omega) HB5.out.size ?_; intro v' w' ho' hg'; have hpush := HO5.out.push HZL.out HOU.out (by omega) HBT.out.size (fun j hj q hq => ((HOT.out.own j hj).1.lt q hq).2) _ ho' hg'; obtain ⟨at', ct', evt, -⟩ := hpush.at; rw [List.length_append, List.length_singleton, HLL.out] at evt; subst evt)
              have HB8 := Lib.hid ((HB5.out.alloc HB5.out.size (.cells #[.string (text kx), .slice (some ⟨gc, 0, none⟩) n1 cc] 30)).grown hg' (by simp; have := HB5.out.size; omega) (fun z e => (HO5.out.row.lt z e).1))
              have HR8 := Lib.hid (heap_grown ((Below.heap_alloc w5 (.cells #[.string (text kx), .slice (some ⟨gc, 0, none⟩) n1 cc] 30) B (Array.getElem?_eq_some_iff.1 HR5.out).1).trans HR5.out) hg' (own_ne HR5.out (by decide) HO5.out.row))
              have HS8 := Lib.hid (heap_grown ((Below.heap_alloc w5 (.cells #[.string (text kx), .slice (some ⟨gc, 0, none⟩) n1 cc] 30) gw (Array.getElem?_eq_some_iff.1 HS5.out).1).trans HS5.out) hg' (own_ne HS5.out (by decide) HO5.out.row))
              have HO8 := Lib.hid hpush
              have HLPn := Lib.hid (show (L ++ [(⟨kx, .slice (some ⟨gc, 0, none⟩) n1 cc, zerosC n1⟩ : Rw)]).getD (p + 1) Rw.zero = ⟨kx, .slice (some ⟨gc, 0, none⟩) n1 cc, zerosC n1⟩ by rw [getD_push, HLL.out]; simp)
              have HPUT := Lib.hid (show ((L ++ [(⟨kx, .slice (some ⟨gc, 0, none⟩) n1 cc, zerosC n1⟩ : Rw)]).set (p + 1) (⟨kx, .slice (some ⟨gc, 0, none⟩) n1 cc, (zerosC n1).set ii ⟨n9, s9, a9, b9, g9, t9, d9, e9⟩⟩ : Rw)).map Rw.pr = wrowN gs n s a b l (k + 1) by rw [HN.out, ← HLL.out]; exact put_new rfl (.inr (by rw [HLL.out, Nat.add_sub_cancel, HLP.out]; have h9 := HQ9.out; exact fun e => (by simpa using h9 : kx ≠ kl) e.symm)))
              have HTL := Lib.hid (show (L ++ [(⟨kx, .slice (some ⟨gc, 0, none⟩) n1 cc, zerosC n1⟩ : Rw)]).length = (p + 1) + 1 by rw [List.length_append, HLL.out]; rfl)
              obtain ⟨br9, offr9, eat, hct1, hct2, hcl8, hoc8, hcs8⟩ := HO8.out.last HTL.out HLPn.out
              subst eat
              have HLC8 := Lib.hid hcl8
              have HOC8 := Lib.hid hoc8
              have HCS8 := Lib.hid hcs8
              clear hcl8 hoc8 hcs8 hpush ho' hg' HOU HO5 HS5 HR5 HB5 HOT HST HRT HBT y0 y1
              obtain ⟨LT, hLT⟩ : ∃ z, (L ++ [(⟨kx, .slice (some ⟨gc, 0, none⟩) n1 cc, zerosC n1⟩ : Rw)]) = z := ⟨_, rfl⟩
              rw [hLT] at HO8 HLPn HPUT HTL
              clear hLT
              obtain ⟨CS, hCS⟩ : ∃ z, zerosC n1 = z := ⟨_, rfl⟩
              rw [hCS] at HLPn HPUT HOC8 HCS8
              clear hCS
              have HGC := Lib.hid (show w.heap.size ≤ gc by have := HBT2.out; omega)
              obtain ⟨M9, hM9⟩ : ∃ z, (p + 1) + 1 = z := ⟨_, rfl⟩
              rw [hM9] at HO8 hct1 ⊢
              have HM9 := Lib.hid (show (M9 : Int) - 1 = (((p + 1) : Nat) : Int) by omega)
              have hM8 : (((p + 1) : Nat) : Int) < (M9 : Int) := by omega
              have hM7 : (((p + 1) : Nat) : Int) < (ct' : Int) := by omega
              have HMM := Lib.hid hM9
              clear hM9
              have HGS := Lib.hid (show GSt 79 (fun i v _ => v = [.slice (some ⟨bg, og, none⟩) n1 cap, .pointer (some ⟨gw, 1, none⟩), .int .i64 (ii : Int), .pointer (some ⟨bg, og + ii * 2, none⟩), .pointer (some ⟨bg, og + ii * 2 + 1, none⟩), .int .i64 pk, .pointer (some ⟨B, 2, none⟩), .agg #[.int .i64 n, .int .i64 s], .pointer (some ⟨B, 4, none⟩), .agg #[.int .i64 a, .int .i64 b], .pointer (some ⟨gw, 2, none⟩), .bool gx, .pointer (some ⟨gw, 3, none⟩), .string (text vx), .tuple #[.agg #[.int .i64 n9, .int .i64 s9, .int .i64 a9, .int .i64 b9, .bool g9, .string (text t9), .int .i64 d9, .int .i64 e9], .int .i64 f9], .tuple #[.agg #[.int .i64 n9, .int .i64 s9, .int .i64 a9, .int .i64 b9, .bool g9, .string (text t9), .int .i64 d9, .int .i64 e9], .int .i64 f9], .agg #[.int .i64 n9, .int .i64 s9, .int .i64 a9, .int .i64 b9, .bool g9, .string (text t9), .int .i64 d9, .int .i64 e9], .int .i64 f9].getD i undef) from ⟨fun i v X Y h _ => h, fun i v X Y q cs ds _ _ h => h⟩)
              refine wp_region_inv [none,none,none,none,none,none,none,none,none,none,none,none, some 18, some 20, none,none,none,none,none,none,none,none,none,none,none,none,none,none,none,none,none,none,none,none,none,none,none,none,none,none,none,none,none,none,none,none,none,none,none,none,none,none,none, some 15, some 0, some 1, some 2, some 3, some 4, some 5, some 6, some 7, some 8, some 9, some 10, some 11, some 12, some 13, some 14, some 16, some 17, none,none,none,none,none,none,none,none,none,none,none,none,none] (fun i => [u54, u55, u56, u57, u58, u59, u60, u61, u62, u63, u64, u65, u66, u67, u68, u53, u69, u70, u12, undef, u13].getD i undef) (LayG 18 1 79 #[.int .i64 0, .int .i64 0, .int .i64 0, .int .i64 0, .bool false, .string ⟨#[]⟩, .int .i64 0, .int .i64 0] (fun i v _ => v = [.slice (some ⟨bg, og, none⟩) n1 cap, .pointer (some ⟨gw, 1, none⟩), .int .i64 (ii : Int), .pointer (some ⟨bg, og + ii * 2, none⟩), .pointer (some ⟨bg, og + ii * 2 + 1, none⟩), .int .i64 pk, .pointer (some ⟨B, 2, none⟩), .agg #[.int .i64 n, .int .i64 s], .pointer (some ⟨B, 4, none⟩), .agg #[.int .i64 a, .int .i64 b], .pointer (some ⟨gw, 2, none⟩), .bool gx, .pointer (some ⟨gw, 3, none⟩), .string (text vx), .tuple #[.agg #[.int .i64 n9, .int .i64 s9, .int .i64 a9, .int .i64 b9, .bool g9, .string (text t9), .int .i64 d9, .int .i64 e9], .int .i64 f9], .tuple #[.agg #[.int .i64 n9, .int .i64 s9, .int .i64 a9, .int .i64 b9, .bool g9, .string (text t9), .int .i64 d9, .int .i64 e9], .int .i64 f9], .agg #[.int .i64 n9, .int .i64 s9, .int .i64 a9, .int .i64 b9, .bool g9, .string (text t9), .int .i64 d9, .int .i64 e9], .int .i64 f9].getD i undef) (fun _ => 16) w') (by kernel_rfl) (by kernel_rfl) rfl rfl (fun LL hL => LayG.start fun i hi => hL i (Nat.lt_of_lt_of_le hi (by decide))) ?_ ?_
              · simp only [invOps, and_true]
                refine ⟨?_,?_,?_,?_,?_,?_,?_,?_,?_,?_,?_,?_,?_,?_,?_,?_,?_,?_,?_,?_,?_⟩
                · intro LL xs W hI hL hn
                  simp only [flowAct, zwc, zwn]
                  go_wp2_with (fail)
                  exact ⟨rfl, _, rfl, hI.set HGS.out 0 (by decide) (Below.refl _ _) rfl⟩
                · intro LL xs W hI hL hn
                  simp only [flowAct, zwc, zwn]
                  go_wp2_with (fail)
                  exact ⟨rfl, _, rfl, hI.set HGS.out 1 (by decide) (Below.refl _ _) rfl⟩
                · intro LL xs W hI hL hn
                  obtain ⟨w0, w1, w2, w3⟩ := wr_cells (heap_below HS8.out hI.below)
                  simp [invNeeds, Region.binds] at hn
                  have e1 : xs 1 = .pointer (some ⟨gw, 1, none⟩) := hI.2.1 1 (by decide) (by simp only [hn])
                  simp only [flowAct, zwc, zwn]
                  simp only [e1]
                  go_wp2_with (fail)
                  exact ⟨rfl, _, rfl, hI.set HGS.out 2 (by decide) (Below.refl _ _) rfl⟩
                · intro LL xs W hI hL hn
                  simp [invNeeds, Region.binds] at hn
                  have e0 : xs 0 = .slice (some ⟨bg, og, none⟩) n1 cap := hI.2.1 0 (by decide) (by simp only [hn])
                  have e2 : xs 2 = .int .i64 (ii : Int) := hI.2.1 2 (by decide) (by simp only [hn])
                  simp only [flowAct, zwc, zwn]
                  simp only [e0, e2]
                  go_wp2_with (fail)
                  exact ⟨rfl, _, rfl, hI.set HGS.out 3 (by decide) (Below.refl _ _) rfl⟩
                · intro LL xs W hI hL hn
                  simp [invNeeds, Region.binds] at hn
                  have e3 : xs 3 = .pointer (some ⟨bg, og + ii * 2, none⟩) := hI.2.1 3 (by decide) (by simp only [hn])
                  simp only [flowAct, zwc, zwn]
                  simp only [e3]
                  go_wp2_with (fail)
                  exact ⟨rfl, _, rfl, hI.set HGS.out 4 (by decide) (Below.refl _ _) rfl⟩
                · intro LL xs W hI hL hn
                  obtain ⟨g0, g1⟩ := HGT.out W (HB8.out.trans (hI.below.mono HB8.out.size))
                  simp [invNeeds, Region.binds] at hn
                  have e4 : xs 4 = .pointer (some ⟨bg, og + ii * 2 + 1, none⟩) := hI.2.1 4 (by decide) (by simp only [hn])
                  simp only [flowAct, zwc, zwn]
                  simp only [e4]
                  go_wp2_with (fail)
                  exact ⟨rfl, _, rfl, hI.set HGS.out 5 (by decide) (Below.refl _ _) rfl⟩
                · intro LL xs W hI hL hn
                  simp only [flowAct, zwc, zwn]
                  go_wp2_with (fail)
                  exact ⟨rfl, _, rfl, hI.set HGS.out 6 (by decide) (Below.refl _ _) rfl⟩
                · intro LL xs W hI hL hn
                  obtain ⟨c0, c1, c2, c3, c4, c5, c6⟩ := ch_cells (heap_below HR8.out hI.below)
                  simp [invNeeds, Region.binds] at hn
                  have e6 : xs 6 = .pointer (some ⟨B, 2, none⟩) := hI.2.1 6 (by decide) (by simp only [hn])
                  simp only [flowAct, zwc, zwn]
                  simp only [e6]
                  go_wp2_with (fail)
                  exact ⟨rfl, _, rfl, hI.set HGS.out 7 (by decide) (Below.refl _ _) rfl⟩
                · intro LL xs W hI hL hn
                  simp only [flowAct, zwc, zwn]
                  go_wp2_with (fail)
                  exact ⟨rfl, _, rfl, hI.set HGS.out 8 (by decide) (Below.refl _ _) rfl⟩
                · intro LL xs W hI hL hn
                  obtain ⟨c0, c1, c2, c3, c4, c5, c6⟩ := ch_cells (heap_below HR8.out hI.below)
                  simp [invNeeds, Region.binds] at hn
                  have e8 : xs 8 = .pointer (some ⟨B, 4, none⟩) := hI.2.1 8 (by decide) (by simp only [hn])
                  simp only [flowAct, zwc, zwn]
                  simp only [e8]
                  go_wp2_with (fail)
                  exact ⟨rfl, _, rfl, hI.set HGS.out 9 (by decide) (Below.refl _ _) rfl⟩
                · intro LL xs W hI hL hn
                  simp only [flowAct, zwc, zwn]
                  go_wp2_with (fail)
                  exact ⟨rfl, _, rfl, hI.set HGS.out 10 (by decide) (Below.refl _ _) rfl⟩
                · intro LL xs W hI hL hn
                  obtain ⟨w0, w1, w2, w3⟩ := wr_cells (heap_below HS8.out hI.below)
                  simp [invNeeds, Region.binds] at hn
                  have e10 : xs 10 = .pointer (some ⟨gw, 2, none⟩) := hI.2.1 10 (by decide) (by simp only [hn])
                  simp only [flowAct, zwc, zwn]
                  simp only [e10]
                  go_wp2_with (fail)
                  exact ⟨rfl, _, rfl, hI.set HGS.out 11 (by decide) (Below.refl _ _) rfl⟩
                · intro LL xs W hI hL hn
                  simp only [flowAct, zwc, zwn]
                  go_wp2_with (fail)
                  exact ⟨rfl, _, rfl, hI.set HGS.out 12 (by decide) (Below.refl _ _) rfl⟩
                · intro LL xs W hI hL hn
                  obtain ⟨w0, w1, w2, w3⟩ := wr_cells (heap_below HS8.out hI.below)
                  simp [invNeeds, Region.binds] at hn
                  have e12 : xs 12 = .pointer (some ⟨gw, 3, none⟩) := hI.2.1 12 (by decide) (by simp only [hn])
                  simp only [flowAct, zwc, zwn]
                  simp only [e12]
                  go_wp2_with (fail)
                  exact ⟨rfl, _, rfl, hI.set HGS.out 13 (by decide) (Below.refl _ _) rfl⟩
                · intro LL xs W hI hL hn
                  simp [invNeeds, Region.binds] at hn
                  have e5 : xs 5 = .int .i64 pk := hI.2.1 5 (by decide) (by simp only [hn])
                  have e7 : xs 7 = .agg #[.int .i64 n, .int .i64 s] := hI.2.1 7 (by decide) (by simp only [hn])
                  have e9 : xs 9 = .agg #[.int .i64 a, .int .i64 b] := hI.2.1 9 (by decide) (by simp only [hn])
                  have e11 : xs 11 = .bool gx := hI.2.1 11 (by decide) (by simp only [hn])
                  have e13 : xs 13 = .string (text vx) := hI.2.1 13 (by decide) (by simp only [hn])
                  simp only [flowAct, zwc, zwn]
                  simp only [e5, e7, e9, e11, e13]
                  go_wp2_with (go_at_call 112; (with_reducible refine (HCO.out _).mono ?_); rintro e9 w9 ⟨rfl, hb9⟩)
                  exact ⟨rfl, _, rfl, hI.set HGS.out 14 (by decide) hb9 rfl⟩
                · intro LL xs W hI hL hn
                  simp [invNeeds, Region.binds] at hn
                  have e14 : xs 14 = .tuple #[.agg #[.int .i64 n9, .int .i64 s9, .int .i64 a9, .int .i64 b9, .bool g9, .string (text t9), .int .i64 d9, .int .i64 e9], .int .i64 f9] := hI.2.1 14 (by decide) (by simp only [hn])
                  simp only [flowAct, zwc, zwn]
                  simp only [e14]
                  go_wp2_with (fail)
                  exact ⟨rfl, _, rfl, hI.set HGS.out 15 (by decide) (Below.refl _ _) rfl⟩
                · intro LL xs W hI hL hn
                  simp [invNeeds, Region.binds] at hn
                  have e15 : xs 15 = .tuple #[.agg #[.int .i64 n9, .int .i64 s9, .int .i64 a9, .int .i64 b9, .bool g9, .string (text t9), .int .i64 d9, .int .i64 e9], .int .i64 f9] := hI.2.1 15 (by decide) (by simp only [hn])
                  simp only [flowAct, zwc, zwn]
                  simp only [e15]
                  go_wp2_with (fail)
                  exact ⟨rfl, _, rfl, hI.set HGS.out 16 (by decide) (Below.refl _ _) rfl⟩
                · intro LL xs W hI hL hn
                  simp [invNeeds, Region.binds] at hn
                  have e15 : xs 15 = .tuple #[.agg #[.int .i64 n9, .int .i64 s9, .int .i64 a9, .int .i64 b9, .bool g9, .string (text t9), .int .i64 d9, .int .i64 e9], .int .i64 f9] := hI.2.1 15 (by decide) (by simp only [hn])
                  simp only [flowAct, zwc, zwn]
                  simp only [e15]
                  go_wp2_with (fail)
                  exact ⟨rfl, _, rfl, hI.set HGS.out 17 (by decide) (Below.refl _ _) rfl⟩
                · intro LL xs W hI hL hn
                  simp only [flowAct, zwc, zwn]
                  go_wp2_with (fail)
                  exact ⟨rfl, _, rfl, hI.alloc HGS.out 0 (by decide) rfl hL⟩
                · intro LL xs W hI hL hn
                  simp [invNeeds, Region.binds] at hn
                  obtain ⟨hk, hv⟩ : LL 18 = true ∧ LL 16 = true := by simp only [hn, and_self]
                  obtain ⟨g5, cs5, eg, lg, hgc, hz5⟩ := hI.2.2.1 0 (by decide) hk
                  rw [if_neg (by rw [show LL (18 + 1 + 0) = false from hL]; decide)] at hz5
                  subst hz5
                  have e0 : xs 16 = .agg #[.int .i64 n9, .int .i64 s9, .int .i64 a9, .int .i64 b9, .bool g9, .string (text t9), .int .i64 d9, .int .i64 e9] := hI.2.1 16 (by decide) hv
                  have e1 : xs 18 = .pointer (some ⟨g5, 0, none⟩) := eg
                  have hc5 : Cel W g5 0 0 0 0 false [] 0 0 := hgc
                  obtain ⟨p0, p1, p2, p3, p4, p5, p6, p7⟩ := hc5.cs
                  have pfz := hc5.fz
                  simp only [flowAct, zwc, zwn]
                  simp only [e0, e1]
                  go_wp2_with (fail)
                  exact ⟨rfl, undef, rfl, hI.store HGS.out 0 (by decide) rfl rfl hk eg rfl (Wrote.cell8 hc5 n9 s9 a9 b9 g9 t9 d9 e9) undef⟩
                · intro LL xs W hI hL hn
                  simp [invNeeds, Region.binds] at hn
                  have e17 : xs 17 = .int .i64 f9 := hI.2.1 17 (by decide) (by simp only [hn])
                  simp only [flowAct, zwc, zwn]
                  simp only [e17]
                  go_wp2_with (fail)
                  exact ⟨rfl, _, rfl, hI.other 20 (by decide) _⟩
              · intro LL xs W hI hall
                obtain ⟨hW, -, hP, -,-⟩ := hI
                obtain ⟨gx9, cs7, e7, l7, h7, g7⟩ := hP 0 (by decide) (hall 18 (by decide))
                rw [if_pos (hall (18 + 1 + 0) (by decide))] at g7
                have g7 : Value.agg cs7 = .agg #[.int .i64 n9, .int .i64 s9, .int .i64 a9, .int .i64 b9, .bool g9, .string (text t9), .int .i64 d9, .int .i64 e9] := g7
                injection g7 with g7
                subst g7
                clear g7
                replace e7 : xs 18 = _ := e7
                clear hP hall
                simp only [flowAct, zwc, zwn]
                simp only [e7]
                have hbk := HB8.out.trans (hW.mono HB8.out.size)
                have hrk := heap_below HR8.out hW
                have hsk := heap_below HS8.out hW
                have hok := HO8.out.kept hW
                have hoc := HOC8.out.kept hW
                have hlc := fun W' (h : Below W.heap.size W W') => HLC8.out W' (hW.trans (h.mono hW.size))
                have hce : Cel W gx9 n9 s9 a9 b9 g9 t9 d9 e9 := h7
                clear e7 h7 hW HGS HGT
                obtain ⟨WK, hWK⟩ : ∃ X, W = X := ⟨_, rfl⟩
                rw [hWK] at hbk hrk hsk hok hoc hlc hce ⊢
                clear hWK HB8 HR8 HS8 HO8 HOC8 HLC8
                have HB7 := Lib.hid hbk
                have HR7 := Lib.hid hrk
                have HS7 := Lib.hid hsk
                have HO7 := Lib.hid hok
                have HOC7 := Lib.hid hoc
                have HLC7 := Lib.hid hlc
                have HCE := Lib.hid hce
                clear hbk hrk hsk hok hoc hlc hce
                go_upto_region 12 with (fail)
                refine wp_region_flow_tail 10 [none,none,none,none,none,none,none,none,none,none,none,none,none,none,none,none,none,none,none,none,none,none,none,none,none,none,none,none,none,none,none,none,none,none,none,none,none,none,none,none,none,none,none,none,none,none,none,none,none,none,none,none,none,none,none,none,none,none,none,none,none,none,none,none,none,none,none,none,none,none,none, some 0, some 1, some 2, some 3, some 4, some 5, some 6, some 7, some 8, some 9, none,none,none] (fun i => [u71, u72, u73, u74, u75, u76, u77, u78, u79, u80].getD i undef) [(fun v _ => v = .slice (some ⟨br9, offr9, none⟩) M9 ct'), (fun v _ => v = .slice (some ⟨br9, offr9, none⟩) M9 ct'), (fun v _ => v = .int .i64 (M9 : Int)), (fun v _ => v = .int .i64 (((p + 1) : Nat) : Int)), (fun v _ => v = .pointer (some ⟨br9, offr9 + (p + 1) * 2, none⟩)), (fun v _ => v = .pointer (some ⟨br9, offr9 + (p + 1) * 2 + 1, none⟩)), (fun v _ => v = .slice (some ⟨gc, 0, none⟩) n1 cc), (fun v _ => v = .pointer (some ⟨gw, 1, none⟩)), (fun v _ => v = .int .i64 (ii : Int)), (fun v _ => v = .agg #[.int .i64 n9, .int .i64 s9, .int .i64 a9, .int .i64 b9, .bool g9, .string (text t9), .int .i64 d9, .int .i64 e9])] (fun _ => False) (by kernel_rfl) (by kernel_rfl) (by kernel_rfl) rfl rfl rfl ?_ ?_ ?_
                · intro g hg v X Y hX hY hv
                  simp only [List.mem_cons, List.not_mem_nil, or_false] at hg
                  rcases hg with rfl | rfl | rfl | rfl | rfl | rfl | rfl | rfl | rfl | rfl
                  all_goals first
                    | exact hv
                    | exact hv.kept hY
                · simp only [flowOpsF, List.take_succ_cons, List.take_zero, and_true]
                  refine ⟨?_,?_,?_,?_,?_,?_,?_,?_,?_,?_⟩
                  · intro xs W hW hn
                    simp only [flowAct, zwc, zwn]
                    go_wp2_with (fail)
                    exact ⟨rfl, _, rfl, Below.refl _ _, rfl, fun h => h.elim⟩
                  · intro xs W hW hn
                    simp only [flowAct, zwc, zwn]
                    go_wp2_with (fail)
                    exact ⟨rfl, _, rfl, Below.refl _ _, rfl, fun h => h.elim⟩
                  · intro xs W hW hn
                    simp [flowNeeds, Region.binds] at hn
                    simp only [flowAct, zwc, zwn]
                    try simp only [hn]
                    go_wp2_with (fail)
                    exact ⟨rfl, _, rfl, Below.refl _ _, rfl, fun h => h.elim⟩
                  · intro xs W hW hn
                    have hm9 := HM9.out
                    simp [flowNeeds, Region.binds] at hn
                    simp only [flowAct, zwc, zwn]
                    simp only [hn]
                    go_wp2_with (fail)
                    exact ⟨rfl, _, rfl, Below.refl _ _, by first | rfl | go_num, fun h => h.elim⟩
                  · intro xs W hW hn
                    simp [flowNeeds, Region.binds] at hn
                    simp only [flowAct, zwc, zwn]
                    try simp only [hn]
                    go_wp2_with (fail)
                    exact ⟨rfl, _, rfl, Below.refl _ _, rfl, fun h => h.elim⟩
                  · intro xs W hW hn
                    simp [flowNeeds, Region.binds] at hn
                    simp only [flowAct, zwc, zwn]
                    try simp only [hn]
                    go_wp2_with (fail)
                    exact ⟨rfl, _, rfl, Below.refl _ _, rfl, fun h => h.elim⟩
                  · intro xs W hW hn
                    obtain ⟨r0, r1⟩ := HLC7.out W hW
                    simp [flowNeeds, Region.binds] at hn
                    simp only [flowAct, zwc, zwn]
                    try simp only [hn]
                    go_wp2_with (fail)
                    exact ⟨rfl, _, rfl, Below.refl _ _, rfl, fun h => h.elim⟩
                  · intro xs W hW hn
                    simp only [flowAct, zwc, zwn]
                    go_wp2_with (fail)
                    exact ⟨rfl, _, rfl, Below.refl _ _, rfl, fun h => h.elim⟩
                  · intro xs W hW hn
                    obtain ⟨w0, w1, w2, w3⟩ := wr_cells (heap_below HS7.out hW)
                    simp [flowNeeds, Region.binds] at hn
                    simp only [flowAct, zwc, zwn]
                    try simp only [hn]
                    go_wp2_with (fail)
                    exact ⟨rfl, _, rfl, Below.refl _ _, rfl, fun h => h.elim⟩
                  · intro xs W hW hn
                    obtain ⟨p0, p1, p2, p3, p4, p5, p6, p7⟩ := (HCE.out.kept hW).cs
                    simp only [flowAct, zwc, zwn]
                    go_wp2_with (fail)
                    exact ⟨rfl, _, rfl, Below.refl _ _, rfl, fun h => h.elim⟩
                · intro xs W hW hall hfr
                  clear hfr
                  simp only [flowAll, and_true, Nat.zero_add, Nat.reduceAdd] at hall
                  obtain ⟨-,-,-,-,-,-, y6, -, y8, y9⟩ := hall
                  simp only [flowAct, zwc, zwn, List.drop_succ_cons, List.drop_zero]
                  simp only [y6, y8, y9]
                  have HBx := Lib.hid (HB7.out.trans (hW.mono HB7.out.size))
                  have HRx := Lib.hid (heap_below HR7.out hW)
                  have HOx := Lib.hid (HO7.out.kept hW)
                  have HOCx := Lib.hid (HOC7.out.kept hW)
                  have hlk : ii < CS.length := by have := HCS8.out; omega
                  have HLK := Lib.hid hlk
                  have pfz := own_fz HOCx.out
                  obtain ⟨p0, p1, p2, p3, p4, p5, p6, p7⟩ := own_at HOCx.out hlk _ (Below.refl _ _)
                  clear y6 y8 y9 hW hlk
                  go_wp2
                  go_roundw
                  case rel => exact ⟨k + 1, _, LT.set (p + 1) ⟨kx, .slice (some ⟨gc, 0, none⟩) n1 cc, CS.set ii ⟨n9, s9, a9, b9, g9, t9, d9, e9⟩⟩, by omega, by go_num, rfl, (by have hst := OwnRw.store HOx.out (j := (p + 1)) (by rw [HTL.out]; omega) (by rw [HLPn.out]; exact put_only (k := ii) n9 s9 a9 b9 g9 t9 d9 e9) (by rw [HLPn.out]; exact own_put HOCx.out HLK.out n9 s9 a9 b9 g9 t9 d9 e9) (by rw [List.length_set]; exact HCS8.out) hn0; rw [HLPn.out] at hst; exact hst), HPUT.out, cells_put_below (k := ii) HBx.out HGC.out n9 s9 a9 b9 g9 t9 d9 e9, ((put_only (g := gc) (m := n1) (c := cc) (k := ii) n9 s9 a9 b9 g9 t9 d9 e9).rest B (own_ne HRx.out (by decide) HOCx.out)).trans HRx.out⟩
                  case measure => simp [intOf]; omega
            | true =>
              obtain rfl : kx = kl := by have h9 := HQ9.out; exact (by simpa using h9 : kx = kl)
              have HGC := Lib.hid hgcB
              have HPUT := Lib.hid (show (L.set p (⟨kx, .slice (some ⟨gc, 0, none⟩) n1 cc, csl.set ii ⟨n9, s9, a9, b9, g9, t9, d9, e9⟩⟩ : Rw)).map Rw.pr = wrowN gs n s a b l (k + 1) by
                have h := put_old (n1 := n1) (L := L) (R := L.map Rw.pr) (k := kx) (i := ii) (x := ⟨n9, s9, a9, b9, g9, t9, d9, e9⟩) rfl HLL.out (by rw [HLP.out])
                rw [HLP.out] at h
                rw [HN.out]; exact h)
              obtain ⟨LT, hLT⟩ : ∃ z, L = z := ⟨_, rfl⟩
              rw [hLT] at HLL HOT HLP HPUT
              have HTL := Lib.hid HLL.out
              have HB8 := Lib.hid HBT.out
              have HR8 := Lib.hid HRT.out
              have HS8 := Lib.hid HST.out
              have HO8 := Lib.hid HOT.out
              have HOC8 := Lib.hid HOCT.out
              have HLC8 := Lib.hid HLCT.out
              have HCS8 := Lib.hid HCS.out
              obtain ⟨CS, hCS⟩ : ∃ z, csl = z := ⟨_, rfl⟩
              rw [hCS] at HLP HPUT HOC8 HCS8
              clear hCS hLT HBT HRT HST HOT HOCT HLCT HOC HLC HCS
              go_upto_region 11 with (fail)
              obtain ⟨M9, hM9⟩ : ∃ z, p + 1 = z := ⟨_, rfl⟩
              rw [hM9] at HO8 hct1 ⊢
              have HM9 := Lib.hid (show (M9 : Int) - 1 = ((p : Nat) : Int) by omega)
              have hM8 : ((p : Nat) : Int) < (M9 : Int) := by omega
              have hM7 : ((p : Nat) : Int) < (cl : Int) := by omega
              have HMM := Lib.hid hM9
              clear hM9
              have HGS := Lib.hid (show GSt 79 (fun i v _ => v = [.slice (some ⟨bg, og, none⟩) n1 cap, .pointer (some ⟨gw, 1, none⟩), .int .i64 (ii : Int), .pointer (some ⟨bg, og + ii * 2, none⟩), .pointer (some ⟨bg, og + ii * 2 + 1, none⟩), .int .i64 pk, .pointer (some ⟨B, 2, none⟩), .agg #[.int .i64 n, .int .i64 s], .pointer (some ⟨B, 4, none⟩), .agg #[.int .i64 a, .int .i64 b], .pointer (some ⟨gw, 2, none⟩), .bool gx, .pointer (some ⟨gw, 3, none⟩), .string (text vx), .tuple #[.agg #[.int .i64 n9, .int .i64 s9, .int .i64 a9, .int .i64 b9, .bool g9, .string (text t9), .int .i64 d9, .int .i64 e9], .int .i64 f9], .tuple #[.agg #[.int .i64 n9, .int .i64 s9, .int .i64 a9, .int .i64 b9, .bool g9, .string (text t9), .int .i64 d9, .int .i64 e9], .int .i64 f9], .agg #[.int .i64 n9, .int .i64 s9, .int .i64 a9, .int .i64 b9, .bool g9, .string (text t9), .int .i64 d9, .int .i64 e9], .int .i64 f9].getD i undef) from ⟨fun i v X Y h _ => h, fun i v X Y q cs ds _ _ h => h⟩)
              refine wp_region_inv [none,none,none,none,none,none,none,none,none,none,none,none, some 18, some 20, none,none,none,none,none,none,none,none,none,none,none,none,none,none,none,none,none,none,none,none,none,none,none,none,none,none,none,none,none,none,none,none,none,none,none,none,none,none,none, some 15, some 0, some 1, some 2, some 3, some 4, some 5, some 6, some 7, some 8, some 9, some 10, some 11, some 12, some 13, some 14, some 16, some 17, none,none,none,none,none,none,none,none,none,none,none,none,none] (fun i => [u54, u55, u56, u57, u58, u59, u60, u61, u62, u63, u64, u65, u66, u67, u68, u53, u69, u70, u12, undef, u13].getD i undef) (LayG 18 1 79 #[.int .i64 0, .int .i64 0, .int .i64 0, .int .i64 0, .bool false, .string ⟨#[]⟩, .int .i64 0, .int .i64 0] (fun i v _ => v = [.slice (some ⟨bg, og, none⟩) n1 cap, .pointer (some ⟨gw, 1, none⟩), .int .i64 (ii : Int), .pointer (some ⟨bg, og + ii * 2, none⟩), .pointer (some ⟨bg, og + ii * 2 + 1, none⟩), .int .i64 pk, .pointer (some ⟨B, 2, none⟩), .agg #[.int .i64 n, .int .i64 s], .pointer (some ⟨B, 4, none⟩), .agg #[.int .i64 a, .int .i64 b], .pointer (some ⟨gw, 2, none⟩), .bool gx, .pointer (some ⟨gw, 3, none⟩), .string (text vx), .tuple #[.agg #[.int .i64 n9, .int .i64 s9, .int .i64 a9, .int .i64 b9, .bool g9, .string (text t9), .int .i64 d9, .int .i64 e9], .int .i64 f9], .tuple #[.agg #[.int .i64 n9, .int .i64 s9, .int .i64 a9, .int .i64 b9, .bool g9, .string (text t9), .int .i64 d9, .int .i64 e9], .int .i64 f9], .agg #[.int .i64 n9, .int .i64 s9, .int .i64 a9, .int .i64 b9, .bool g9, .string (text t9), .int .i64 d9, .int .i64 e9], .int .i64 f9].getD i undef) (fun _ => 16) WK) (by kernel_rfl) (by kernel_rfl) rfl rfl (fun LL hL => LayG.start fun i hi => hL i (Nat.lt_of_lt_of_le hi (by decide))) ?_ ?_
              · simp only [invOps, and_true]
                refine ⟨?_,?_,?_,?_,?_,?_,?_,?_,?_,?_,?_,?_,?_,?_,?_,?_,?_,?_,?_,?_,?_⟩
                · intro LL xs W hI hL hn
                  simp only [flowAct, zwc, zwn]
                  go_wp2_with (fail)
                  exact ⟨rfl, _, rfl, hI.set HGS.out 0 (by decide) (Below.refl _ _) rfl⟩
                · intro LL xs W hI hL hn
                  simp only [flowAct, zwc, zwn]
                  go_wp2_with (fail)
                  exact ⟨rfl, _, rfl, hI.set HGS.out 1 (by decide) (Below.refl _ _) rfl⟩
                · intro LL xs W hI hL hn
                  obtain ⟨w0, w1, w2, w3⟩ := wr_cells (heap_below HS8.out hI.below)
                  simp [invNeeds, Region.binds] at hn
                  have e1 : xs 1 = .pointer (some ⟨gw, 1, none⟩) := hI.2.1 1 (by decide) (by simp only [hn])
                  simp only [flowAct, zwc, zwn]
                  simp only [e1]
                  go_wp2_with (fail)
                  exact ⟨rfl, _, rfl, hI.set HGS.out 2 (by decide) (Below.refl _ _) rfl⟩
                · intro LL xs W hI hL hn
                  simp [invNeeds, Region.binds] at hn
                  have e0 : xs 0 = .slice (some ⟨bg, og, none⟩) n1 cap := hI.2.1 0 (by decide) (by simp only [hn])
                  have e2 : xs 2 = .int .i64 (ii : Int) := hI.2.1 2 (by decide) (by simp only [hn])
                  simp only [flowAct, zwc, zwn]
                  simp only [e0, e2]
                  go_wp2_with (fail)
                  exact ⟨rfl, _, rfl, hI.set HGS.out 3 (by decide) (Below.refl _ _) rfl⟩
                · intro LL xs W hI hL hn
                  simp [invNeeds, Region.binds] at hn
                  have e3 : xs 3 = .pointer (some ⟨bg, og + ii * 2, none⟩) := hI.2.1 3 (by decide) (by simp only [hn])
                  simp only [flowAct, zwc, zwn]
                  simp only [e3]
                  go_wp2_with (fail)
                  exact ⟨rfl, _, rfl, hI.set HGS.out 4 (by decide) (Below.refl _ _) rfl⟩
                · intro LL xs W hI hL hn
                  obtain ⟨g0, g1⟩ := HGT.out W (HB8.out.trans (hI.below.mono HB8.out.size))
                  simp [invNeeds, Region.binds] at hn
                  have e4 : xs 4 = .pointer (some ⟨bg, og + ii * 2 + 1, none⟩) := hI.2.1 4 (by decide) (by simp only [hn])
                  simp only [flowAct, zwc, zwn]
                  simp only [e4]
                  go_wp2_with (fail)
                  exact ⟨rfl, _, rfl, hI.set HGS.out 5 (by decide) (Below.refl _ _) rfl⟩
                · intro LL xs W hI hL hn
                  simp only [flowAct, zwc, zwn]
                  go_wp2_with (fail)
                  exact ⟨rfl, _, rfl, hI.set HGS.out 6 (by decide) (Below.refl _ _) rfl⟩
                · intro LL xs W hI hL hn
                  obtain ⟨c0, c1, c2, c3, c4, c5, c6⟩ := ch_cells (heap_below HR8.out hI.below)
                  simp [invNeeds, Region.binds] at hn
                  have e6 : xs 6 = .pointer (some ⟨B, 2, none⟩) := hI.2.1 6 (by decide) (by simp only [hn])
                  simp only [flowAct, zwc, zwn]
                  simp only [e6]
                  go_wp2_with (fail)
                  exact ⟨rfl, _, rfl, hI.set HGS.out 7 (by decide) (Below.refl _ _) rfl⟩
                · intro LL xs W hI hL hn
                  simp only [flowAct, zwc, zwn]
                  go_wp2_with (fail)
                  exact ⟨rfl, _, rfl, hI.set HGS.out 8 (by decide) (Below.refl _ _) rfl⟩
                · intro LL xs W hI hL hn
                  obtain ⟨c0, c1, c2, c3, c4, c5, c6⟩ := ch_cells (heap_below HR8.out hI.below)
                  simp [invNeeds, Region.binds] at hn
                  have e8 : xs 8 = .pointer (some ⟨B, 4, none⟩) := hI.2.1 8 (by decide) (by simp only [hn])
                  simp only [flowAct, zwc, zwn]
                  simp only [e8]
                  go_wp2_with (fail)
                  exact ⟨rfl, _, rfl, hI.set HGS.out 9 (by decide) (Below.refl _ _) rfl⟩
                · intro LL xs W hI hL hn
                  simp only [flowAct, zwc, zwn]
                  go_wp2_with (fail)
                  exact ⟨rfl, _, rfl, hI.set HGS.out 10 (by decide) (Below.refl _ _) rfl⟩
                · intro LL xs W hI hL hn
                  obtain ⟨w0, w1, w2, w3⟩ := wr_cells (heap_below HS8.out hI.below)
                  simp [invNeeds, Region.binds] at hn
                  have e10 : xs 10 = .pointer (some ⟨gw, 2, none⟩) := hI.2.1 10 (by decide) (by simp only [hn])
                  simp only [flowAct, zwc, zwn]
                  simp only [e10]
                  go_wp2_with (fail)
                  exact ⟨rfl, _, rfl, hI.set HGS.out 11 (by decide) (Below.refl _ _) rfl⟩
                · intro LL xs W hI hL hn
                  simp only [flowAct, zwc, zwn]
                  go_wp2_with (fail)
                  exact ⟨rfl, _, rfl, hI.set HGS.out 12 (by decide) (Below.refl _ _) rfl⟩
                · intro LL xs W hI hL hn
                  obtain ⟨w0, w1, w2, w3⟩ := wr_cells (heap_below HS8.out hI.below)
                  simp [invNeeds, Region.binds] at hn
                  have e12 : xs 12 = .pointer (some ⟨gw, 3, none⟩) := hI.2.1 12 (by decide) (by simp only [hn])
                  simp only [flowAct, zwc, zwn]
                  simp only [e12]
                  go_wp2_with (fail)
                  exact ⟨rfl, _, rfl, hI.set HGS.out 13 (by decide) (Below.refl _ _) rfl⟩
                · intro LL xs W hI hL hn
                  simp [invNeeds, Region.binds] at hn
                  have e5 : xs 5 = .int .i64 pk := hI.2.1 5 (by decide) (by simp only [hn])
                  have e7 : xs 7 = .agg #[.int .i64 n, .int .i64 s] := hI.2.1 7 (by decide) (by simp only [hn])
                  have e9 : xs 9 = .agg #[.int .i64 a, .int .i64 b] := hI.2.1 9 (by decide) (by simp only [hn])
                  have e11 : xs 11 = .bool gx := hI.2.1 11 (by decide) (by simp only [hn])
                  have e13 : xs 13 = .string (text vx) := hI.2.1 13 (by decide) (by simp only [hn])
                  simp only [flowAct, zwc, zwn]
                  simp only [e5, e7, e9, e11, e13]
                  go_wp2_with (go_at_call 112; (with_reducible refine (HCO.out _).mono ?_); rintro e9 w9 ⟨rfl, hb9⟩)
                  exact ⟨rfl, _, rfl, hI.set HGS.out 14 (by decide) hb9 rfl⟩
                · intro LL xs W hI hL hn
                  simp [invNeeds, Region.binds] at hn
                  have e14 : xs 14 = .tuple #[.agg #[.int .i64 n9, .int .i64 s9, .int .i64 a9, .int .i64 b9, .bool g9, .string (text t9), .int .i64 d9, .int .i64 e9], .int .i64 f9] := hI.2.1 14 (by decide) (by simp only [hn])
                  simp only [flowAct, zwc, zwn]
                  simp only [e14]
                  go_wp2_with (fail)
                  exact ⟨rfl, _, rfl, hI.set HGS.out 15 (by decide) (Below.refl _ _) rfl⟩
                · intro LL xs W hI hL hn
                  simp [invNeeds, Region.binds] at hn
                  have e15 : xs 15 = .tuple #[.agg #[.int .i64 n9, .int .i64 s9, .int .i64 a9, .int .i64 b9, .bool g9, .string (text t9), .int .i64 d9, .int .i64 e9], .int .i64 f9] := hI.2.1 15 (by decide) (by simp only [hn])
                  simp only [flowAct, zwc, zwn]
                  simp only [e15]
                  go_wp2_with (fail)
                  exact ⟨rfl, _, rfl, hI.set HGS.out 16 (by decide) (Below.refl _ _) rfl⟩
                · intro LL xs W hI hL hn
                  simp [invNeeds, Region.binds] at hn
                  have e15 : xs 15 = .tuple #[.agg #[.int .i64 n9, .int .i64 s9, .int .i64 a9, .int .i64 b9, .bool g9, .string (text t9), .int .i64 d9, .int .i64 e9], .int .i64 f9] := hI.2.1 15 (by decide) (by simp only [hn])
                  simp only [flowAct, zwc, zwn]
                  simp only [e15]
                  go_wp2_with (fail)
                  exact ⟨rfl, _, rfl, hI.set HGS.out 17 (by decide) (Below.refl _ _) rfl⟩
                · intro LL xs W hI hL hn
                  simp only [flowAct, zwc, zwn]
                  go_wp2_with (fail)
                  exact ⟨rfl, _, rfl, hI.alloc HGS.out 0 (by decide) rfl hL⟩
                · intro LL xs W hI hL hn
                  simp [invNeeds, Region.binds] at hn
                  obtain ⟨hk, hv⟩ : LL 18 = true ∧ LL 16 = true := by simp only [hn, and_self]
                  obtain ⟨g5, cs5, eg, lg, hgc, hz5⟩ := hI.2.2.1 0 (by decide) hk
                  rw [if_neg (by rw [show LL (18 + 1 + 0) = false from hL]; decide)] at hz5
                  subst hz5
                  have e0 : xs 16 = .agg #[.int .i64 n9, .int .i64 s9, .int .i64 a9, .int .i64 b9, .bool g9, .string (text t9), .int .i64 d9, .int .i64 e9] := hI.2.1 16 (by decide) hv
                  have e1 : xs 18 = .pointer (some ⟨g5, 0, none⟩) := eg
                  have hc5 : Cel W g5 0 0 0 0 false [] 0 0 := hgc
                  obtain ⟨p0, p1, p2, p3, p4, p5, p6, p7⟩ := hc5.cs
                  have pfz := hc5.fz
                  simp only [flowAct, zwc, zwn]
                  simp only [e0, e1]
                  go_wp2_with (fail)
                  exact ⟨rfl, undef, rfl, hI.store HGS.out 0 (by decide) rfl rfl hk eg rfl (Wrote.cell8 hc5 n9 s9 a9 b9 g9 t9 d9 e9) undef⟩
                · intro LL xs W hI hL hn
                  simp [invNeeds, Region.binds] at hn
                  have e17 : xs 17 = .int .i64 f9 := hI.2.1 17 (by decide) (by simp only [hn])
                  simp only [flowAct, zwc, zwn]
                  simp only [e17]
                  go_wp2_with (fail)
                  exact ⟨rfl, _, rfl, hI.other 20 (by decide) _⟩
              · intro LL xs W hI hall
                obtain ⟨hW, -, hP, -,-⟩ := hI
                obtain ⟨gx9, cs7, e7, l7, h7, g7⟩ := hP 0 (by decide) (hall 18 (by decide))
                rw [if_pos (hall (18 + 1 + 0) (by decide))] at g7
                have g7 : Value.agg cs7 = .agg #[.int .i64 n9, .int .i64 s9, .int .i64 a9, .int .i64 b9, .bool g9, .string (text t9), .int .i64 d9, .int .i64 e9] := g7
                injection g7 with g7
                subst g7
                clear g7
                replace e7 : xs 18 = _ := e7
                clear hP hall
                simp only [flowAct, zwc, zwn]
                simp only [e7]
                have hbk := HB8.out.trans (hW.mono HB8.out.size)
                have hrk := heap_below HR8.out hW
                have hsk := heap_below HS8.out hW
                have hok := HO8.out.kept hW
                have hoc := HOC8.out.kept hW
                have hlc := fun W' (h : Below W.heap.size W W') => HLC8.out W' (hW.trans (h.mono hW.size))
                have hce : Cel W gx9 n9 s9 a9 b9 g9 t9 d9 e9 := h7
                clear e7 h7 hW HGS HGT
                obtain ⟨WK, hWK⟩ : ∃ X, W = X := ⟨_, rfl⟩
                rw [hWK] at hbk hrk hsk hok hoc hlc hce ⊢
                clear hWK HB8 HR8 HS8 HO8 HOC8 HLC8
                have HB7 := Lib.hid hbk
                have HR7 := Lib.hid hrk
                have HS7 := Lib.hid hsk
                have HO7 := Lib.hid hok
                have HOC7 := Lib.hid hoc
                have HLC7 := Lib.hid hlc
                have HCE := Lib.hid hce
                clear hbk hrk hsk hok hoc hlc hce
                go_upto_region 12 with (fail)
                refine wp_region_flow_tail 10 [none,none,none,none,none,none,none,none,none,none,none,none,none,none,none,none,none,none,none,none,none,none,none,none,none,none,none,none,none,none,none,none,none,none,none,none,none,none,none,none,none,none,none,none,none,none,none,none,none,none,none,none,none,none,none,none,none,none,none,none,none,none,none,none,none,none,none,none,none,none,none, some 0, some 1, some 2, some 3, some 4, some 5, some 6, some 7, some 8, some 9, none,none,none] (fun i => [u71, u72, u73, u74, u75, u76, u77, u78, u79, u80].getD i undef) [(fun v _ => v = .slice (some ⟨br, offr, none⟩) M9 cl), (fun v _ => v = .slice (some ⟨br, offr, none⟩) M9 cl), (fun v _ => v = .int .i64 (M9 : Int)), (fun v _ => v = .int .i64 ((p : Nat) : Int)), (fun v _ => v = .pointer (some ⟨br, offr + p * 2, none⟩)), (fun v _ => v = .pointer (some ⟨br, offr + p * 2 + 1, none⟩)), (fun v _ => v = .slice (some ⟨gc, 0, none⟩) n1 cc), (fun v _ => v = .pointer (some ⟨gw, 1, none⟩)), (fun v _ => v = .int .i64 (ii : Int)), (fun v _ => v = .agg #[.int .i64 n9, .int .i64 s9, .int .i64 a9, .int .i64 b9, .bool g9, .string (text t9), .int .i64 d9, .int .i64 e9])] (fun _ => False) (by kernel_rfl) (by kernel_rfl) (by kernel_rfl) rfl rfl rfl ?_ ?_ ?_
                · intro g hg v X Y hX hY hv
                  simp only [List.mem_cons, List.not_mem_nil, or_false] at hg
                  rcases hg with rfl | rfl | rfl | rfl | rfl | rfl | rfl | rfl | rfl | rfl
                  all_goals first
                    | exact hv
                    | exact hv.kept hY
                · simp only [flowOpsF, List.take_succ_cons, List.take_zero, and_true]
                  refine ⟨?_,?_,?_,?_,?_,?_,?_,?_,?_,?_⟩
                  · intro xs W hW hn
                    simp only [flowAct, zwc, zwn]
                    go_wp2_with (fail)
                    exact ⟨rfl, _, rfl, Below.refl _ _, rfl, fun h => h.elim⟩
                  · intro xs W hW hn
                    simp only [flowAct, zwc, zwn]
                    go_wp2_with (fail)
                    exact ⟨rfl, _, rfl, Below.refl _ _, rfl, fun h => h.elim⟩
                  · intro xs W hW hn
                    simp [flowNeeds, Region.binds] at hn
                    simp only [flowAct, zwc, zwn]
                    try simp only [hn]
                    go_wp2_with (fail)
                    exact ⟨rfl, _, rfl, Below.refl _ _, rfl, fun h => h.elim⟩
                  · intro xs W hW hn
                    have hm9 := HM9.out
                    simp [flowNeeds, Region.binds] at hn
                    simp only [flowAct, zwc, zwn]
                    simp only [hn]
                    go_wp2_with (fail)
                    exact ⟨rfl, _, rfl, Below.refl _ _, by first | rfl | go_num, fun h => h.elim⟩
                  · intro xs W hW hn
                    simp [flowNeeds, Region.binds] at hn
                    simp only [flowAct, zwc, zwn]
                    try simp only [hn]
                    go_wp2_with (fail)
                    exact ⟨rfl, _, rfl, Below.refl _ _, rfl, fun h => h.elim⟩
                  · intro xs W hW hn
                    simp [flowNeeds, Region.binds] at hn
                    simp only [flowAct, zwc, zwn]
                    try simp only [hn]
                    go_wp2_with (fail)
                    exact ⟨rfl, _, rfl, Below.refl _ _, rfl, fun h => h.elim⟩
                  · intro xs W hW hn
                    obtain ⟨r0, r1⟩ := HLC7.out W hW
                    simp [flowNeeds, Region.binds] at hn
                    simp only [flowAct, zwc, zwn]
                    try simp only [hn]
                    go_wp2_with (fail)
                    exact ⟨rfl, _, rfl, Below.refl _ _, rfl, fun h => h.elim⟩
                  · intro xs W hW hn
                    simp only [flowAct, zwc, zwn]
                    go_wp2_with (fail)
                    exact ⟨rfl, _, rfl, Below.refl _ _, rfl, fun h => h.elim⟩
                  · intro xs W hW hn
                    obtain ⟨w0, w1, w2, w3⟩ := wr_cells (heap_below HS7.out hW)
                    simp [flowNeeds, Region.binds] at hn
                    simp only [flowAct, zwc, zwn]
                    try simp only [hn]
                    go_wp2_with (fail)
                    exact ⟨rfl, _, rfl, Below.refl _ _, rfl, fun h => h.elim⟩
                  · intro xs W hW hn
                    obtain ⟨p0, p1, p2, p3, p4, p5, p6, p7⟩ := (HCE.out.kept hW).cs
                    simp only [flowAct, zwc, zwn]
                    go_wp2_with (fail)
                    exact ⟨rfl, _, rfl, Below.refl _ _, rfl, fun h => h.elim⟩
                · intro xs W hW hall hfr
                  clear hfr
                  simp only [flowAll, and_true, Nat.zero_add, Nat.reduceAdd] at hall
                  obtain ⟨-,-,-,-,-,-, y6, -, y8, y9⟩ := hall
                  simp only [flowAct, zwc, zwn, List.drop_succ_cons, List.drop_zero]
                  simp only [y6, y8, y9]
                  have HBx := Lib.hid (HB7.out.trans (hW.mono HB7.out.size))
                  have HRx := Lib.hid (heap_below HR7.out hW)
                  have HOx := Lib.hid (HO7.out.kept hW)
                  have HOCx := Lib.hid (HOC7.out.kept hW)
                  have hlk : ii < CS.length := by have := HCS8.out; omega
                  have HLK := Lib.hid hlk
                  have pfz := own_fz HOCx.out
                  obtain ⟨p0, p1, p2, p3, p4, p5, p6, p7⟩ := own_at HOCx.out hlk _ (Below.refl _ _)
                  clear y6 y8 y9 hW hlk
                  go_wp2
                  go_roundw
                  case rel => exact ⟨k + 1, _, LT.set p ⟨kx, .slice (some ⟨gc, 0, none⟩) n1 cc, CS.set ii ⟨n9, s9, a9, b9, g9, t9, d9, e9⟩⟩, by omega, by go_num, rfl, (by have hst := OwnRw.store HOx.out (j := p) (by rw [HTL.out]; omega) (by rw [HLP.out]; exact put_only (k := ii) n9 s9 a9 b9 g9 t9 d9 e9) (by rw [HLP.out]; exact own_put HOCx.out HLK.out n9 s9 a9 b9 g9 t9 d9 e9) (by rw [List.length_set]; exact HCS8.out) hn0; rw [HLP.out] at hst; exact hst), HPUT.out, cells_put_below (k := ii) HBx.out HGC.out n9 s9 a9 b9 g9 t9 d9 e9, ((put_only (g := gc) (m := n1) (c := cc) (k := ii) n9 s9 a9 b9 g9 t9 d9 e9).rest B (own_ne HRx.out (by decide) HOCx.out)).trans HRx.out⟩
                  case measure => simp [intOf]; omega
            
      · obtain rfl : m = k := by omega
        go_wp2
        go_ret2
        exact ⟨_, L, by rw [HRR.out]; rfl, HO.out, by rw [HRR.out]; exact HPR.out, HBr.out⟩
  · have h0n : (R != 0) = true := by simpa using h0
    have HRR := Lib.hid (HQ.out h0)
    go_wp2_with (go_at_call 110; (with_reducible refine (HGD.out _ HB1.out).mono ?_); rintro e9 w2 ⟨rfl, hb2⟩)
    go_ret2
    exact ⟨.slice none 0 0, [], by rw [HRR.out]; rfl, OwnRw.nil _ _ _, by rw [HRR.out]; rfl, HB1.out.trans (hb2.mono HB1.out.size)⟩
end Go.Proofs.Yteffbibmfpdenaa
end

section
namespace Go.Proofs.Yteffbibmfpdenaa
open Go.RowKit Go Go.Sort
set_option linter.unusedVariables false
set_option maxRecDepth 20000

/-- Places, compared. -/
def plEq (k : List UInt8) (i : Int) (k' : List UInt8) (i' : Int) : Bool := decide (k = k') && (i == i')
def hasN (ws : List Wr) (key : List UInt8) (grp : Int) : Nat → Bool
  | 0 => false
  | k + 1 => hasN ws key grp k || plEq (ws.getD k Wr.zero).k (ws.getD k Wr.zero).i key grp
end Go.Proofs.Yteffbibmfpdenaa
end

