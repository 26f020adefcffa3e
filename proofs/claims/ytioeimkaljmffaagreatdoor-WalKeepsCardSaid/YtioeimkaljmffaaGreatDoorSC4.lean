/-
  Merged: WMI WMJ SD WMK WMN WMO WMP WMQ FB FT WC1 WC2 WC3 RS RO RT TW WC4 WRA WMC WRB WRC WK1 EZ.
-/
import Derived.WalkKit
import Derived.Laws.CopyOwn
import Derived.WalkSmall
import Derived.Deep.QuietTactic
import Derived.StillTail
import Derived.Lib.QuietBelow
import Derived.Test.YtioeimkaljmffaaGreatDoorRows
import Derived.Lib.Hide
import Derived.BigQuiet
import Derived.BigRegion
import Derived.Deep.Cut
import Derived.Deep.MidRow
import Derived.Great.BuildSlice
import Derived.Outline
import Derived.OwnWalk
import Derived.Laws.Rows
import Derived.ChangeKeysEq
import Derived.Laws.StructEq
import Derived.Deep.DeepAppendWide
import Derived.Deep.AppendSrc
import Derived.Maps.RangeWalk
import Derived.Maps.OwnSet
import Derived.Maps.OwnOps
import Derived.Lib.MinMax
import Derived.Deep.RegionWith
import Derived.Maps.AppendAt
import Derived.Shelf.Abstract
import Derived.Lib.ConvBytes
import Derived.Lib.SlBytesConst
import Derived.WalkSpells
import Derived.WalkLawsBesides
import Derived.Lib.LaidTab
import Derived.Stop.LaidErr
import Derived.Lib.ItoaNum
import Derived.Shelf.Strings.Builder1
import Derived.Shelf.Strings.Builder2
import Derived.Shelf.Strings.BuilderF
import Derived.Shelf.Strconv.Atoi
import Derived.Shelf.Strconv.Itoa0
import Derived.Shelf.Strconv.Itoa1
import Derived.Shelf.LaysM
import Derived.Shelf.Strconv.Itoa2
import Derived.Shelf.Strconv.Itoa3
import Derived.Shelf.Strconv.AtoiErrFast
import Derived.Shelf.Strconv.ParseIntEmpty
import Derived.Shelf.Strconv.AtoiFail
import Derived.Shelf.Strconv.Clone
import Derived.Shelf.Strconv.SyntaxError
import Derived.Shelf.LaysC
import Derived.Shelf.Strconv.ToError
import Derived.Shelf.Strconv.Lower
import Derived.Shelf.Strconv.ParseUint10
import Derived.Shelf.Strconv.ParseUint10Empty
import Derived.Shelf.Strconv.ParseUint10Any
import Derived.Shelf.Strconv.ParseInt10
import Derived.Shelf.Strconv.AtoiLong
import Derived.Shelf.Strconv.AtoiInnerAll
import Derived.Shelf.Strconv.RangeError
import Derived.Shelf.Strconv.ToErrorRange
import Derived.Shelf.Strconv.AtoiAll
import Derived.Shelf.Strconv.ErrVarAll
import Derived.Shelf.Strings.Prefix
import Derived.Shelf.Bits.Mul64
import Derived.Shelf.Strings.Repeat
import Derived.Test.YtioeimkaljmffaaGreatDoorProg
import Derived.Lib.AtoiTie
import Derived.Lib.AtoiAll
import Derived.Lib.ItoaMem
import Derived.Lib.ItoaLen
import Derived.Lib.AtoiErrMem
import Derived.Lib.AtoiAllCases
import Derived.WideShapes
import Derived.OpenShut
import Derived.ChangeSlices
import Derived.Deep.RegionLaw
import Derived.Deep.RegionHeld3
import Derived.Shelf.Sort.Plain
import Derived.Shelf.Slices.In.SortNone
import Derived.Sort.OwnSorted
import Derived.Sort.KeysCollected
import Derived.Deep.Slices
import Derived.RangeFuncNested
import Derived.RangeFuncBound
import Derived.RangeFuncCalls
import Derived.RangeFuncLeaves
import Derived.OwnWalkIn
import Derived.TacticsInMore
import Derived.LoopNIn
import Derived.LoopIn
import Derived.Shelf.Small.Bits
import Derived.Ground.Names2Prog
import Derived.Shelf.Slices.Delete
import Derived.Shelf.Slices.Cells
import Derived.Shelf.Slices.Empties
import Derived.Deep.Matrix
import Derived.Test.YtioeimkaljmffaaGreatDoorSC3

section
namespace Go.Proofs.YtioeimkaljmffaaGreatDoor
open Go.RowKit Go Go.Sort Go.Maps Go.WideMaps
set_option linter.unusedVariables false
set_option maxRecDepth 20000

theorem lw_cut {w1 W : World} {F0 G0 : Nat → Prop} {q p : Nat} {st : Ds} {g : Lg} (h : Lw w1 F0 G0 q p st g W) (nm : List UInt8) (hn : nm.length ≤ 9223372036854775807) (n : Int) : Calls Tryz.prog 94 #[.pointer (some ⟨q, 0, none⟩), .string (text nm), .int .i64 n] W (fun e W' => e = .returned (.int .i64 (st.cut nm n).1) ∧ Lw w1 F0 G0 q p (st.cut nm n).2 g W') := by
  obtain ⟨⟨F, G, hd, hr, h1, h2, h3⟩, ht⟩ := h
  exact (dcut_c hd nm hn n).mono fun e W' hp => Lw.disk hr h1 h2 h3 ht hp
/-- What settling leaves. -/
def settleL (st : Ds) (g : Lg) (torn : Bool) : Int × Ds × Lg :=
  if g.B = [] then beginL st g else if torn = true then (if (st.cut (nameW 119 g.lastN) g.size).1 = 0 then syncL (st.cut (nameW 119 g.lastN) g.size).2 g else ((st.cut (nameW 119 g.lastN) g.size).1, (st.cut (nameW 119 g.lastN) g.size).2, g)) else syncL st g
set_option maxHeartbeats 6400000 in
theorem lsettle_keep {w1 W : World} {F0 G0 : Nat → Prop} {q p : Nat} {st : Ds} {g : Lg} (h : Lw w1 F0 G0 q p st g W) (hne : 0 < g.B.length) (hT : TabI W) (h0 : -9223372036854775808 ≤ g.lastN) (h1 : g.lastN ≤ 9223372036854775807) (h2 : 0 ≤ g.next) (h3 : g.next ≤ 2000000000000) :
    Calls Tryz.prog 47 #[.pointer (some ⟨p, 0, none⟩), .bool false] W (fun e W' => e = .returned (.int .i64 (syncL st g).1) ∧ Lw w1 F0 G0 q p (syncL st g).2.1 (syncL st g).2.2 W') := by
  have HSY := Lib.hid (lsync_p h hne hT h0 h1 h2 h3)
  obtain ⟨bv, hl⟩ := h.cs
  obtain ⟨a, cap, hv, -, -, -⟩ := hl.place
  have c2 := hl.cs.2.2.1
  rw [hv] at c2
  have hn0 : ¬ (g.B.length : Int) = 0 := by omega
  have hnb : ((g.B.length : Int) == 0) = false := by rw [beq_eq_false_iff_ne]; exact hn0
  obtain ⟨n, hn⟩ : ∃ z, g.B.length = z := ⟨_, rfl⟩
  rw [hn] at c2 hn0 hnb
  obtain ⟨⟨r1, s1, g1⟩, hr⟩ : ∃ z, syncL st g = z := ⟨_, rfl⟩
  rw [hr] at HSY ⊢
  simp only at HSY ⊢
  clear h hl hv hne hT h0 h1 h2 h3 hr hn
  go_enter Tryz.func47, Tryz.ntmps47
  go_wp2_with (go_at_call 56; (with_reducible refine HSY.out.mono ?_); rintro e2 w2 ⟨rfl, hl2⟩; have HL2 := Lib.hid hl2; clear hl2)
  go_ret
  exact ⟨rfl, HL2.out⟩
set_option maxHeartbeats 6400000 in
theorem lsettle_torn {w1 W : World} {F0 G0 : Nat → Prop} {q p : Nat} {st : Ds} {g : Lg} (h : Lw w1 F0 G0 q p st g W) (hne : 0 < g.B.length) (hT : ∀ W', Trn (fun k => F0 k ∨ G0 k) w1 W' → TabI W') (h0 : -9223372036854775808 ≤ g.lastN) (h1 : g.lastN ≤ 9223372036854775807) (h2 : 0 ≤ g.next) (h3 : g.next ≤ 2000000000000)
    {R : Int × Ds × Lg} (hR : (if (st.cut (nameW 119 g.lastN) g.size).1 = 0 then syncL (st.cut (nameW 119 g.lastN) g.size).2 g else ((st.cut (nameW 119 g.lastN) g.size).1, (st.cut (nameW 119 g.lastN) g.size).2, g)) = R) :
    Calls Tryz.prog 47 #[.pointer (some ⟨p, 0, none⟩), .bool true] W (fun e W' => e = .returned (.int .i64 R.1) ∧ Lw w1 F0 G0 q p R.2.1 R.2.2 W') := by
  obtain ⟨nm, hnm⟩ : ∃ nm, nameW 119 g.lastN = nm := ⟨_, rfl⟩
  have HN := Lib.hid (show nm.length ≤ 9223372036854775807 from by rw [← hnm]; have := nameW_len 119 g.lastN; omega)
  have HLA := Lib.hid (fun W' (hb : Below W.heap.size W W') => by
    obtain ⟨bv, hl⟩ := (h.below hb).cs
    have := llast_c hl hne ((hT W h.tr).grown hb) h0 h1
    rw [show g.B.getD (g.B.length - 1) 0 = g.lastN from rfl, hnm] at this
    exact this)
  have HL := Lib.hid h
  obtain ⟨bv, hl⟩ := h.cs
  obtain ⟨a, cap, hv, -, -, -⟩ := hl.place
  have c2 := hl.cs.2.2.1
  rw [hv] at c2
  have hn0 : ¬ (g.B.length : Int) = 0 := by omega
  have hnb : ((g.B.length : Int) == 0) = false := by rw [beq_eq_false_iff_ne]; exact hn0
  obtain ⟨n, hn⟩ : ∃ z, g.B.length = z := ⟨_, rfl⟩
  rw [hn] at c2 hn0 hnb
  rw [hnm] at hR
  obtain ⟨r1, hr1⟩ : ∃ z, (st.cut nm g.size).1 = z := ⟨_, rfl⟩
  obtain ⟨s1, hs1⟩ : ∃ z, (st.cut nm g.size).2 = z := ⟨_, rfl⟩
  rw [hr1, hs1] at hR
  have HR := Lib.hid hR
  have HSY := Lib.hid (fun W' (hb : Below W.heap.size W W') => by
    have := lw_cut (h.below hb) nm HN.out g.size
    rw [hr1, hs1] at this
    exact this)
  have HSN := Lib.hid (fun W' (h' : Lw w1 F0 G0 q p s1 g W') => lsync_p h' hne (hT W' h'.tr) h0 h1 h2 h3)
  obtain ⟨zs, hzs⟩ : ∃ z, g.size = z := ⟨_, rfl⟩
  rw [hzs] at HSY
  have HZS := Lib.hid hzs
  clear h hl hv hne hT h0 h1 h2 h3 hn hnm hr1 hs1 hR hzs
  go_enter Tryz.func47, Tryz.ntmps47
  go_upto_region 4 with (fail)
  clear c2
  refine wp_region_flow_tail 10 [none, none, none, none, none, none, none, none, none, none, none, none, none, none, none, some 0, some 1, some 2, some 3, some 4, some 5, some 6, some 7, some 8, some 9, none, none, none, none, none, none] (fun i => [undef, undef, undef, undef, undef, undef, undef, undef, undef, undef].getD i undef) [(fun v _ => v = .pointer (some ⟨p, 0, none⟩)), (fun v _ => v = .pointer (some ⟨p, 0, none⟩)), (fun v _ => v = .pointer (some ⟨p, 0, none⟩)), (fun v _ => v = .pointer (some ⟨q, 0, none⟩)), (fun v _ => v = .pointer (some ⟨p, 0, none⟩)), (fun v _ => v = .string (text nm)), (fun v _ => v = .pointer (some ⟨p, 0, none⟩)), (fun v _ => v = .pointer (some ⟨p, 0, none⟩)), (fun v _ => v = .pointer (some ⟨p, 3, none⟩)), (fun v _ => v = .int .i64 zs)] (fun _ => False) (by kernel_rfl) (by kernel_rfl) (by kernel_rfl) rfl rfl rfl ?_ ?_ ?_
  · intro g hg v X Y hX hY hv
    simp only [List.mem_cons, List.not_mem_nil, or_false] at hg
    rcases hg with rfl | rfl | rfl | rfl | rfl | rfl | rfl | rfl | rfl | rfl
    all_goals first
      | exact hv
      | exact hv.kept hY
  · simp only [flowOpsF, List.take_succ_cons, List.take_zero, and_true]
    refine ⟨?_, ?_, ?_, ?_, ?_, ?_, ?_, ?_, ?_, ?_⟩
    · intro xs W9 hW hn9
      simp only [flowAct, List.zipWith_cons_cons, List.zipWith_nil_left]
      go_wp2_with (fail)
      exact ⟨rfl, _, rfl, Below.refl _ _, rfl, fun h => h.elim⟩
    · intro xs W9 hW hn9
      simp [flowNeeds, Region.binds] at hn9
      simp only [flowAct, List.zipWith_cons_cons, List.zipWith_nil_left]
      try simp only [hn9]
      go_wp2_with (fail)
      exact ⟨rfl, _, rfl, Below.refl _ _, rfl, fun h => h.elim⟩
    · intro xs W9 hW hn9
      simp [flowNeeds, Region.binds] at hn9
      simp only [flowAct, List.zipWith_cons_cons, List.zipWith_nil_left]
      try simp only [hn9]
      go_wp2_with (fail)
      exact ⟨rfl, _, rfl, Below.refl _ _, rfl, fun h => h.elim⟩
    · intro xs W9 hW hn9
      simp [flowNeeds, Region.binds] at hn9
      obtain ⟨bv, hl9⟩ := (HL.out.below hW).cs
      obtain ⟨c0, c1, c2, c3, c4, c5, c6⟩ := hl9.cs
      rw [HZS.out] at c3
      clear hl9
      simp only [flowAct, List.zipWith_cons_cons, List.zipWith_nil_left]
      try simp only [hn9]
      go_wp2_with (fail)
      exact ⟨rfl, _, rfl, Below.refl _ _, rfl, fun h => h.elim⟩
    · intro xs W9 hW hn9
      simp only [flowAct, List.zipWith_cons_cons, List.zipWith_nil_left]
      go_wp2_with (fail)
      exact ⟨rfl, _, rfl, Below.refl _ _, rfl, fun h => h.elim⟩
    · intro xs W9 hW hn9
      simp [flowNeeds, Region.binds] at hn9
      simp only [flowAct, List.zipWith_cons_cons, List.zipWith_nil_left]
      try simp only [hn9]
      go_wp2_with (go_at_call 95; (with_reducible refine (HLA.out _ hW).mono ?_); rintro e9 w9 ⟨rfl, hb9⟩)
      exact ⟨rfl, _, rfl, hb9, rfl, fun h => h.elim⟩
    · intro xs W9 hW hn9
      simp only [flowAct, List.zipWith_cons_cons, List.zipWith_nil_left]
      go_wp2_with (fail)
      exact ⟨rfl, _, rfl, Below.refl _ _, rfl, fun h => h.elim⟩
    · intro xs W9 hW hn9
      simp [flowNeeds, Region.binds] at hn9
      simp only [flowAct, List.zipWith_cons_cons, List.zipWith_nil_left]
      try simp only [hn9]
      go_wp2_with (fail)
      exact ⟨rfl, _, rfl, Below.refl _ _, rfl, fun h => h.elim⟩
    · intro xs W9 hW hn9
      simp [flowNeeds, Region.binds] at hn9
      simp only [flowAct, List.zipWith_cons_cons, List.zipWith_nil_left]
      try simp only [hn9]
      go_wp2_with (fail)
      exact ⟨rfl, _, rfl, Below.refl _ _, rfl, fun h => h.elim⟩
    · intro xs W9 hW hn9
      simp [flowNeeds, Region.binds] at hn9
      obtain ⟨bv, hl9⟩ := (HL.out.below hW).cs
      obtain ⟨c0, c1, c2, c3, c4, c5, c6⟩ := hl9.cs
      rw [HZS.out] at c3
      clear hl9
      simp only [flowAct, List.zipWith_cons_cons, List.zipWith_nil_left]
      try simp only [hn9]
      go_wp2_with (fail)
      exact ⟨rfl, _, rfl, Below.refl _ _, rfl, fun h => h.elim⟩
  · intro xs W9 hW hall hfr
    clear hfr
    simp only [flowAll, and_true, Nat.zero_add, Nat.reduceAdd] at hall
    obtain ⟨-, -, -, a3, -, a5, -, -, -, a9⟩ := hall
    simp only [flowAct, List.zipWith_cons_cons, List.zipWith_nil_left, List.drop_succ_cons, List.drop_zero]
    simp only [a3, a5, a9]
    clear a3 a5 a9
    have HW := Lib.hid hW
    clear hW
    by_cases hr0 : r1 = 0
    · subst hr0
      have hRR := HR.out
      rw [if_pos rfl] at hRR
      have HRR := Lib.hid hRR
      clear hRR
      go_wp2_with (first
        | (go_at_call 94; (with_reducible refine (HSY.out _ HW.out).mono ?_); rintro e2 w2 ⟨rfl, hl2⟩; have HL2 := Lib.hid hl2; clear hl2)
        | (go_at_call 56; (with_reducible refine (HSN.out _ HL2.out).mono ?_); rintro e3 w3 ⟨rfl, hl3⟩; have HL3 := Lib.hid hl3; clear hl3))
      go_ret
      rw [← HRR.out]
      exact ⟨rfl, HL3.out⟩
    · have hrb : (r1 == 0) = false := by rw [beq_eq_false_iff_ne]; exact hr0
      have hRR := HR.out
      rw [if_neg hr0] at hRR
      have HRR := Lib.hid hRR
      clear hRR
      go_wp2_with (go_at_call 94; (with_reducible refine (HSY.out _ HW.out).mono ?_); rintro e2 w2 ⟨rfl, hl2⟩; have HL2 := Lib.hid hl2; clear hl2)
      go_ret
      rw [← HRR.out]
      exact ⟨rfl, HL2.out⟩
theorem lsettle_c {w1 W : World} {F0 G0 : Nat → Prop} {q p : Nat} {st : Ds} {g : Lg} (h : Lw w1 F0 G0 q p st g W) (hT : ∀ W', Trn (fun k => F0 k ∨ G0 k) w1 W' → TabI W') (h0 : -9223372036854775808 ≤ g.lastN) (h1 : g.lastN ≤ 9223372036854775807) (h2 : 0 ≤ g.next) (h3 : g.next ≤ 2000000000000) (torn : Bool) :
    Calls Tryz.prog 47 #[.pointer (some ⟨p, 0, none⟩), .bool torn] W (fun e W' => e = .returned (.int .i64 (settleL st g torn).1) ∧ Lw w1 F0 G0 q p (settleL st g torn).2.1 (settleL st g torn).2.2 W') := by
  by_cases hB : g.B = []
  · have := lsettle_none h hB (hT W h.tr) h2 h3 torn
    rw [show settleL st g torn = beginL st g from by unfold settleL; rw [if_pos hB]]
    exact this
  · have hne : 0 < g.B.length := List.length_pos_iff.2 hB
    cases torn with
    | false =>
      rw [show settleL st g false = syncL st g from by unfold settleL; rw [if_neg hB]; rfl]
      exact lsettle_keep h hne (hT W h.tr) h0 h1 h2 h3
    | true => exact lsettle_torn h hne hT h0 h1 h2 h3 (by unfold settleL; rw [if_neg hB, if_pos rfl])
end Go.Proofs.YtioeimkaljmffaaGreatDoor
end

section
namespace Go.Proofs.YtioeimkaljmffaaGreatDoor
open Go.RowKit Go Go.Sort Go.Maps Go.WideMaps
set_option linter.unusedVariables false
set_option maxRecDepth 20000

theorem readW_range (c : UInt8) (l : List UInt8) : 0 ≤ readW c l ∧ readW c l ≤ 999999999999 := by
  unfold readW
  split
  · rename_i h
    cases hd : Lib.decFrom 0 (l.drop 1) with
    | none => simp
    | some n =>
      have := (padD_dec 12 (l.drop 1) n (by rw [List.length_drop]; omega) hd).2
      simp only
      omega
  · exact ⟨by omega, by omega⟩
theorem numsF_range (L : List (List UInt8)) : ∀ x ∈ numsF L, 0 ≤ x ∧ x ≤ 999999999999 := by
  intro x hx
  unfold numsF at hx
  obtain ⟨l, -, hl⟩ := List.mem_flatMap.1 hx
  split at hl
  · rw [List.mem_singleton.1 hl]
    exact readW_range _ _
  · cases hl
theorem readF_inv {st : Ds} (hsz : ∀ x, ((st.read (nameW 119 x)).1.getD []).length ≤ 99999) : ∀ (B : List Int) (acc : List (List UInt8)) (g : Lg), (∀ x ∈ B, 0 ≤ x ∧ x ≤ 999999999999) → 0 ≤ g.next ∧ g.next ≤ 2000000000000 →
    (readF st B acc g).2.B = g.B ∧ (0 ≤ (readF st B acc g).2.next ∧ (readF st B acc g).2.next ≤ 2000000000000)
  | [], _, _, _, h => ⟨rfl, h⟩
  | [b], acc, g, hB, h => by
    have h1 := hB b (by simp)
    have h2 := rowsS_count ((st.read (nameW 119 b)).1.getD [])
    have h3 := hsz b
    have hb : 0 ≤ b + ((rowsS ((st.read (nameW 119 b)).1.getD [])).1.length : Int) ∧ b + ((rowsS ((st.read (nameW 119 b)).1.getD [])).1.length : Int) ≤ 2000000000000 := by omega
    by_cases h0 : (st.read (nameW 119 b)).2 = 0
    · rw [readF_last h0 rfl rfl]
      exact ⟨rfl, hb⟩
    · rw [readF_err h0]
      exact ⟨rfl, h⟩
  | b :: b2 :: r, acc, g, hB, h => by
    have h1 := hB b (by simp)
    have h2 := rowsS_count ((st.read (nameW 119 b)).1.getD [])
    have h3 := hsz b
    have hb : 0 ≤ b + ((rowsS ((st.read (nameW 119 b)).1.getD [])).1.length : Int) ∧ b + ((rowsS ((st.read (nameW 119 b)).1.getD [])).1.length : Int) ≤ 2000000000000 := by omega
    by_cases h0 : (st.read (nameW 119 b)).2 = 0
    · by_cases h4 : (rowsS ((st.read (nameW 119 b)).1.getD [])).2.2 = 0 ∧ b + ((rowsS ((st.read (nameW 119 b)).1.getD [])).1.length : Int) = b2
      · have h5 := readF_inv hsz (b2 :: r) (acc ++ (rowsS ((st.read (nameW 119 b)).1.getD [])).1) { g with size := ((rowsS ((st.read (nameW 119 b)).1.getD [])).2.1 : Int), next := b + ((rowsS ((st.read (nameW 119 b)).1.getD [])).1.length : Int) } (fun x hx => hB x (List.mem_cons_of_mem _ hx)) hb
        rw [readF_go h0 rfl (show rowsS ((st.read (nameW 119 b)).1.getD []) = (_, _, 0) from by rw [← h4.1]) h4.2]
        exact h5
      · rw [readF_bad h0 rfl rfl h4]
        exact ⟨rfl, hb⟩
    · rw [readF_err h0]
      exact ⟨rfl, h⟩
theorem OwnRows.far {W W' : World} {B : Nat} {v : Value} {l : List (List UInt8)} (h : OwnRows W B v l) (hk : ∀ k, B ≤ k → k < W.heap.size → W'.heap[k]? = W.heap[k]?) : OwnRows W' B v l := by
  obtain ⟨vs, hr, hl, he⟩ := h
  refine ⟨vs, ⟨hr.1, ?_⟩, hl, fun i hi => (he i hi).of_blk fun k hk' => hk k ((he i hi).lt k hk').1 ((he i hi).lt k hk').2⟩
  rcases hr.2 with h | ⟨g, cap, cur, hv, hb, hg, hrest⟩
  · exact .inl h
  · exact .inr ⟨g, cap, cur, hv, hb, (hk g hb (Array.getElem?_eq_some_iff.1 hg).1).trans hg, hrest⟩
theorem OwnRows.mono {W : World} {B B' : Nat} {v : Value} {l : List (List UInt8)} (h : OwnRows W B v l) (hB : B' ≤ B) : OwnRows W B' v l := by
  obtain ⟨vs, hr, hl, he⟩ := h
  refine ⟨vs, ⟨hr.1, ?_⟩, hl, fun i hi => (he i hi).mono hB⟩
  rcases hr.2 with h | ⟨g, cap, cur, hv, hb, hrest⟩
  · exact .inl h
  · exact .inr ⟨g, cap, cur, hv, Nat.le_trans hB hb, hrest⟩
/-- What opening tells, the disk, the log and the records. -/
def openL (st : Ds) (size : Int) : Int × Ds × Lg × List (List UInt8) :=
  if ¬ (st.read []).2 = 152 then ((st.read []).2, st, lg0 st [] size, [])
  else if size < 1 ∨ 1048576 < size then (2, st, lg0 st [] size, [])
  else if ¬ (readF st (numsF (st.F.map Fi.nm)) [] (lg0 st (numsF (st.F.map Fi.nm)) size)).1.2.2 = 0 then ((readF st (numsF (st.F.map Fi.nm)) [] (lg0 st (numsF (st.F.map Fi.nm)) size)).1.2.2, st, lg0 st [] size, [])
  else ((settleL st (readF st (numsF (st.F.map Fi.nm)) [] (lg0 st (numsF (st.F.map Fi.nm)) size)).2 (readF st (numsF (st.F.map Fi.nm)) [] (lg0 st (numsF (st.F.map Fi.nm)) size)).1.2.1).1, (settleL st (readF st (numsF (st.F.map Fi.nm)) [] (lg0 st (numsF (st.F.map Fi.nm)) size)).2 (readF st (numsF (st.F.map Fi.nm)) [] (lg0 st (numsF (st.F.map Fi.nm)) size)).1.2.1).2.1, (settleL st (readF st (numsF (st.F.map Fi.nm)) [] (lg0 st (numsF (st.F.map Fi.nm)) size)).2 (readF st (numsF (st.F.map Fi.nm)) [] (lg0 st (numsF (st.F.map Fi.nm)) size)).1.2.1).2.2, (readF st (numsF (st.F.map Fi.nm)) [] (lg0 st (numsF (st.F.map Fi.nm)) size)).1.1)
def OpenBad (w0 : World) (q : Nat) (st : Ds) (r : Int) (e : Ending) (W : World) : Prop := e = .returned (.tuple #[.pointer none, .slice none 0 0, .int .i64 r]) ∧ Lv w0 W q st
def OpenGood (w0 : World) (q : Nat) (st : Ds) (g : Lg) (l : List (List UInt8)) (e : Ending) (W : World) : Prop := ∃ p v, e = .returned (.tuple #[.pointer (some ⟨p, 0, none⟩), v, .int .i64 0]) ∧ Wg w0 q p st g W ∧ OwnRows W w0.heap.size v l
theorem lw_lv {w0 w1 W : World} {F G : Nat → Prop} {q p : Nat} {st : Ds} {g : Lg} (h2 : ∀ k, F k → w0.heap.size ≤ k) (h3 : ∀ k, G k → w0.heap.size ≤ k) (hb : Below w0.heap.size w0 w1) (h : Lw w1 F G q p st g W) : Lv w0 W q st := by
  obtain ⟨F', G', hd, hr, h1, h4, h5, h6⟩ := wg_of h2 h3 hb h
  exact ⟨F', hd, h4, h6⟩
set_option maxHeartbeats 6400000 in
theorem wopen_off {w0 W : World} {q : Nat} {st : Ds} {F : Nat → Prop} (hd : Dk W q st F) (hF : ∀ k, F k → w0.heap.size ≤ k) (hb0 : Below w0.heap.size w0 W) (size : Int) (hrd : ¬ (st.read []).2 = 152) :
    Calls Tryz.prog 14 #[.pointer (some ⟨q, 0, none⟩), .int .i64 size] W (OpenBad w0 q st (st.read []).2) := by
  have HL := Lib.hid (show Lv w0 W q st from ⟨F, hd, hF, hb0⟩)
  have HRD := Lib.hid (dread_c hd [] (by simp))
  rw [show text [] = ⟨#[]⟩ from rfl] at HRD
  obtain ⟨r, hr⟩ : ∃ z, (st.read []).2 = z := ⟨_, rfl⟩
  rw [hr] at HRD hrd ⊢
  have hrb : (r == 152) = false := by rw [beq_eq_false_iff_ne]; exact hrd
  clear hd hF hb0 hr
  go_enter Tryz.func14, Tryz.ntmps14
  go_wp2_with (go_at_call 32; (with_reducible refine HRD.out.mono ?_); rintro e1 w1 ⟨rv, rfl, hb1, -⟩; have HB1 := Lib.hid hb1; clear hb1)
  go_ret3
  exact ⟨rfl, HL.out.keep HB1.out⟩
set_option maxHeartbeats 6400000 in
theorem wopen_size {w0 W : World} {q : Nat} {st : Ds} {F : Nat → Prop} (hd : Dk W q st F) (hF : ∀ k, F k → w0.heap.size ≤ k) (hb0 : Below w0.heap.size w0 W) (size : Int) (hrd : (st.read []).2 = 152) (hs : size < 1 ∨ 1048576 < size) :
    Calls Tryz.prog 14 #[.pointer (some ⟨q, 0, none⟩), .int .i64 size] W (OpenBad w0 q st 2) := by
  have HL := Lib.hid (show Lv w0 W q st from ⟨F, hd, hF, hb0⟩)
  have HRD := Lib.hid (dread_c hd [] (by simp))
  rw [show text [] = ⟨#[]⟩ from rfl] at HRD
  rw [hrd] at HRD
  clear hd hF hb0 hrd
  by_cases h1 : size < 1
  · clear hs
    go_enter Tryz.func14, Tryz.ntmps14
    go_wp2_with (go_at_call 32; (with_reducible refine HRD.out.mono ?_); rintro e1 w1 ⟨rv, rfl, hb1, -⟩; have HB1 := Lib.hid hb1; clear hb1)
    go_ret3
    exact ⟨rfl, HL.out.keep HB1.out⟩
  · have h2 : 1048576 < size := by omega
    clear hs
    go_enter Tryz.func14, Tryz.ntmps14
    go_wp2_with (go_at_call 32; (with_reducible refine HRD.out.mono ?_); rintro e1 w1 ⟨rv, rfl, hb1, -⟩; have HB1 := Lib.hid hb1; clear hb1)
    go_ret3
    exact ⟨rfl, HL.out.keep HB1.out⟩
set_option maxRecDepth 100000 in
set_option maxHeartbeats 12800000 in
theorem wopen_go {w0 W : World} {q : Nat} {st : Ds} {F : Nat → Prop} (hd : Dk W q st F) (hF : ∀ k, F k → w0.heap.size ≤ k) (hb0 : Below w0.heap.size w0 W) (hT : TabE w0) (hsz : ∀ f ∈ st.F, f.b.length ≤ 99999) (size : Int) (hrd : (st.read []).2 = 152) (h1 : 1 ≤ size) (h2 : size ≤ 1048576)
    {R : (List (List UInt8) × Bool × Int) × Lg} (hR : readF st (numsF (st.F.map Fi.nm)) [] (lg0 st (numsF (st.F.map Fi.nm)) size) = R) {S : Int × Ds × Lg} (hS : settleL st R.2 R.1.2.1 = S) :
    Calls Tryz.prog 14 #[.pointer (some ⟨q, 0, none⟩), .int .i64 size] W (fun e W' => (¬ R.1.2.2 = 0 → OpenBad w0 q st R.1.2.2 e W') ∧ (R.1.2.2 = 0 → ¬ S.1 = 0 → OpenBad w0 q S.2.1 S.1 e W') ∧ (R.1.2.2 = 0 → S.1 = 0 → OpenGood w0 q S.2.1 S.2.2 R.1.1 e W')) := by
  have HD := Lib.hid hd
  have HB0 := Lib.hid hb0
  have HF := Lib.hid hF
  have HTE := Lib.hid hT
  have HSZ := Lib.hid hsz
  have HRD := Lib.hid (dread_c hd [] (by simp))
  rw [hrd] at HRD
  rw [show text [] = ⟨#[]⟩ from rfl] at HRD
  have HFI := Lib.hid (fun (W' : World) (hb : Below W.heap.size W W') => (show Calls Tryz.prog 45 #[.pointer (some ⟨q, 0, none⟩)] W' (FindPost q st.fails (st.F.map Fi.nm) W') from wfind_c (wdk_keep hd fun k hk => hb.block k (wdk_lt hd hk)) (hT.grown (hb0.trans (hb.mono hb0.size)))))
  obtain ⟨B, hB⟩ : ∃ z, numsF (st.F.map Fi.nm) = z := ⟨_, rfl⟩
  have HBR := Lib.hid (show ∀ x ∈ B, 0 ≤ x ∧ x ≤ 999999999999 from hB ▸ numsF_range _)
  have HBL := Lib.hid (show B.length ≤ 64 from by rw [← hB]; have h3 := numsF_len (st.F.map Fi.nm); have h4 := hd.ok.len; rw [List.length_map] at h3; omega)
  have HNO := Lib.hid hB
  rw [hB] at hR
  have HRL := Lib.hid (show ∀ x, (((st.read (nameW 119 x)).1).getD []).length ≤ 99999 from fun x => by
    unfold Ds.read
    split
    · simp
    · split
      · simp
      · rename_i f hf
        exact hsz f (List.mem_of_find?_eq_some hf))
  have HRI := Lib.hid (show R.2.B = B ∧ (0 ≤ R.2.next ∧ R.2.next ≤ 2000000000000) from by
    have := readF_inv HRL.out B [] (lg0 st B size) HBR.out ⟨by show (0 : Int) ≤ 1; decide, by show (1 : Int) ≤ _; decide⟩
    rw [hR] at this
    exact this)
  have HLN := Lib.hid (show -9223372036854775808 ≤ R.2.lastN ∧ R.2.lastN ≤ 9223372036854775807 from by
    unfold Lg.lastN
    rw [HRI.out.1, List.getD_eq_getElem?_getD]
    cases h : B[B.length - 1]? with
    | none => simp
    | some x =>
      have := HBR.out x (List.mem_of_getElem? h)
      simp only [Option.getD_some]
      omega)
  have HR := Lib.hid hR
  have HS := Lib.hid hS
  have n1 : ¬ size < 1 := by omega
  have n2 : ¬ 1048576 < size := by omega
  obtain ⟨⟨recs, torn, er⟩, g1⟩ := R
  simp only at HS HRI HLN ⊢
  clear hd hF hb0 hT hsz hrd h1 h2 hB hR hS
  go_enter Tryz.func14, Tryz.ntmps14
  go_upto_region 7 with (first
    | (go_at_call 32; (with_reducible refine HRD.out.mono ?_); rintro e1 w1 ⟨rv, rfl, hb1, -⟩; have HB1 := Lib.hid hb1; clear hb1)
    | (go_at_call 45; (with_reducible refine (HFI.out _ HB1.out).mono ?_); rintro e2 w2 ⟨fv, rfl, ho2, hb2⟩; have HO2 := Lib.hid ho2; have HB12 := Lib.hid hb2; have HB2 := Lib.hid (HB1.out.trans (hb2.mono HB1.out.size)); clear ho2 hb2))
  have hal := alloc_below w2 (.cells #[.pointer (some ⟨q, 0, none⟩), .int .i64 st.fails, fv, .int .i64 0, .int .i64 1, .int .i64 0, .int .i64 size] 87)
  have HB3 := Lib.hid (HB2.out.trans (hal.mono HB2.out.size))
  have HLI := Lib.hid (show LogIn (w2.alloc (.cells #[.pointer (some ⟨q, 0, none⟩), .int .i64 st.fails, fv, .int .i64 0, .int .i64 1, .int .i64 0, .int .i64 size] 87)) w2.heap.size q fv (lg0 st B size) from ⟨heap_alloc_new w2 _, by
    have := HO2.out.kept hal
    rw [HNO.out] at this
    exact this.mono (Nat.zero_le _)⟩)
  have HGS := Lib.hid (show (∀ k, lgfoot w2.heap.size fv k → W.heap.size ≤ k) from fun k hk => by
    rcases hk with rfl | hk
    · exact HB2.out.size
    · exact Nat.le_trans HB1.out.size (HO2.out.lt k hk).1)
  obtain ⟨p, hp⟩ : ∃ z, w2.heap.size = z := ⟨_, rfl⟩
  rw [hp] at HLI HGS ⊢
  have HPW := Lib.hid (show W.heap.size ≤ p from by rw [← hp]; exact HB2.out.size)
  clear hal hp
  generalize w2.alloc (.cells #[.pointer (some ⟨q, 0, none⟩), .int .i64 st.fails, fv, .int .i64 0, .int .i64 1, .int .i64 0, .int .i64 size] 87) = w3 at *
  have HD3 := Lib.hid (wdk_keep HD.out fun k hk => HB3.out.block k (wdk_lt HD.out hk))
  have HDJ := Lib.hid (show ∀ k, F k → ¬ lgfoot p fv k from fun k hk hg => by have h1 := wdk_lt HD.out hk; have h2 := HGS.out k hg; omega)
  have HBE := Lib.hid (HB0.out.trans (HB3.out.mono HB0.out.size))
  have HTR := Lib.hid (show ∀ W', Trn (fun k => k = p) w3 W' → Below w0.heap.size w0 W' from fun W' ht => HBE.out.trans (ht.base HBE.out.size (fun k hk => by rw [hk]; exact Nat.le_trans HB0.out.size HPW.out)))
  have HRE := Lib.hid (lread_p HD3.out HLI.out HDJ.out (HTE.out.i.grown HBE.out) (fun W' ht => HTE.out.i.grown (HTR.out W' ht)) (fun x hx => by have := HBR.out x hx; omega) (by have := HBL.out; show B.length ≤ 5000; omega) HSZ.out)
  rw [show readF st (lg0 st B size).B [] (lg0 st B size) = ((recs, torn, er), g1) from HR.out] at HRE
  have HSE := Lib.hid (fun (W' : World) (hl : LogIn W' p q fv g1) (ht : Trn (fun k => k = p) w3 W') => by
    have hd4 : Dk W' q st F := wdk_keep HD3.out fun k hk => ht.block k (wdk_lt HD3.out hk) fun e => HDJ.out k hk (.inl e)
    have hl4 : Lw W' F (lgfoot p fv) q p st g1 W' := Lw.start hd4 ⟨fv, hl, rfl⟩ HDJ.out
    have := lsettle_c hl4 (fun W2 ht2 => HTE.out.i.grown ((HTR.out W' ht).trans (ht2.base (HTR.out W' ht).size (fun k hk => hk.elim (HF.out k) (fun h => Nat.le_trans HB0.out.size (HGS.out k h)))))) HLN.out.1 HLN.out.2 HRI.out.2.1 HRI.out.2.2 torn
    rw [HS.out] at this
    exact this)
  have HFG := Lib.hid (show (∀ k, F k ∨ lgfoot p fv k → k < w3.heap.size) from fun k hk => hk.elim (wdk_lt HD3.out) (fun h => HLI.out.lt h))
  have HGW := Lib.hid (show (∀ k, lgfoot p fv k → w0.heap.size ≤ k) from fun k hk => Nat.le_trans HB0.out.size (HGS.out k hk))
  unfold LreadPost at HRE
  simp only at HRE
  clear HRD HFI HLI HD HB1 HB2 HB12 HO2 HNO HR HBR HBL HRL HSZ HLN HS
  obtain ⟨s, st2, g2⟩ := S
  simp only at HSE ⊢
  by_cases her : er = 0
  · subst her
    by_cases hs0 : s = 0
    · subst hs0
      go_wp2_with (first
        | (go_at_call 46; (with_reducible refine HRE.out.mono ?_); rintro e4 w4 ⟨v4, rfl, hl4, ht4, ho4⟩; have HL4 := Lib.hid hl4; have HT4 := Lib.hid ht4; have HO4 := Lib.hid ho4; clear hl4 ht4 ho4)
        | (go_at_call 47; (with_reducible refine (HSE.out _ HL4.out HT4.out).mono ?_); rintro e5 w5 ⟨rfl, hl5⟩; have HL5 := Lib.hid hl5; clear hl5))
      go_ret3
      refine ⟨p, v4, rfl, wg_of HF.out HGW.out (HTR.out _ HT4.out) HL5.out, ?_⟩
      refine (HO4.out.far fun k hk hlt => HL5.out.tr.block k hlt fun h => ?_).mono HBE.out.size
      have := HFG.out k h
      omega
    · have hsb : (s == 0) = false := by rw [beq_eq_false_iff_ne]; exact hs0
      go_wp2_with (first
        | (go_at_call 46; (with_reducible refine HRE.out.mono ?_); rintro e4 w4 ⟨v4, rfl, hl4, ht4, ho4⟩; have HL4 := Lib.hid hl4; have HT4 := Lib.hid ht4; clear hl4 ht4 ho4)
        | (go_at_call 47; (with_reducible refine (HSE.out _ HL4.out HT4.out).mono ?_); rintro e5 w5 ⟨rfl, hl5⟩; have HL5 := Lib.hid hl5; clear hl5))
      go_ret3
      exact ⟨rfl, lw_lv HF.out HGW.out (HTR.out _ HT4.out) HL5.out⟩
  · have hrb : (er == 0) = false := by rw [beq_eq_false_iff_ne]; exact her
    go_wp2_with (go_at_call 46; (with_reducible refine HRE.out.mono ?_); rintro e4 w4 ⟨v4, rfl, hl4, ht4, ho4⟩; have HT4 := Lib.hid ht4; clear hl4 ht4 ho4)
    go_ret3
    refine ⟨rfl, F, ?_, HF.out, HTR.out _ HT4.out⟩
    exact wdk_keep HD3.out fun k hk => HT4.out.block k (wdk_lt HD3.out hk) fun e => HDJ.out k hk (.inl e)
theorem wopen_c {w0 W : World} {q : Nat} {st : Ds} {F : Nat → Prop} (hd : Dk W q st F) (hF : ∀ k, F k → w0.heap.size ≤ k) (hb0 : Below w0.heap.size w0 W) (hT : TabE w0) (hsz : ∀ f ∈ st.F, f.b.length ≤ 99999) (hnz : ¬ (st.read []).2 = 0) (size : Int) :
    Calls Tryz.prog 14 #[.pointer (some ⟨q, 0, none⟩), .int .i64 size] W (fun e W' => ((openL st size).1 = 0 → OpenGood w0 q (openL st size).2.1 (openL st size).2.2.1 (openL st size).2.2.2 e W') ∧ (¬ (openL st size).1 = 0 → OpenBad w0 q (openL st size).2.1 (openL st size).1 e W')) := by
  by_cases hrd : (st.read []).2 = 152
  · by_cases hs : size < 1 ∨ 1048576 < size
    · rw [show openL st size = (2, st, lg0 st [] size, []) from by unfold openL; rw [if_neg (fun h => h hrd), if_pos hs]]
      exact (wopen_size hd hF hb0 size hrd hs).mono fun e W' h => ⟨fun h9 => absurd (show (2 : Int) = 0 from h9) (by decide), fun _ => h⟩
    · refine (wopen_go hd hF hb0 hT hsz size hrd (by omega) (by omega) rfl rfl).mono fun e W' ⟨h1, h2, h3⟩ => ?_
      unfold openL
      rw [if_neg (fun h => h hrd), if_neg hs]
      split
      · rename_i h9
        exact ⟨fun h8 => absurd h8 h9, fun _ => h1 h9⟩
      · rename_i h9
        exact ⟨fun h8 => h3 (Decidable.not_not.1 h9) h8, fun h8 => h2 (Decidable.not_not.1 h9) h8⟩
  · rw [show openL st size = ((st.read []).2, st, lg0 st [] size, []) from by unfold openL; rw [if_pos hrd]]
    exact (wopen_off hd hF hb0 size hrd).mono fun e W' h => ⟨fun h9 => absurd h9 hnz, fun _ => h⟩
end Go.Proofs.YtioeimkaljmffaaGreatDoor
end

section
namespace Go.Proofs
open Go.Shelf
def Tryz.laysNm223_ren : Go.Shelf.Ren := ⟨fun | 23 => 60 | n => n, fun | 22 => 54 | 3 => 3 | 4 => 4 | 0 => 0 | n => n, fun | n => n⟩
theorem Tryz.laysNm223 : Go.Proofs.Lays2.n23 Tryz.prog Tryz.laysNm223_ren := {
  mixed := by kernel_rfl
  f23 := Tryz.func60.trans (congrArg some (by kernel_rfl))
  t0 := Tryz.underlying0
  a0 := Tryz.isAgg0
  z0 := Tryz.sizeOf0
  v0 := Tryz.zeroValue0
  t3 := Tryz.underlying3
  a3 := Tryz.isAgg3
  z3 := Tryz.sizeOf3
  v3 := Tryz.zeroValue3
  t4 := Tryz.underlying4
  a4 := Tryz.isAgg4
  z4 := Tryz.sizeOf4
  v4 := Tryz.zeroValue4
  t22 := Tryz.underlying54
  a22 := Tryz.isAgg54
  z22 := Tryz.sizeOf54
  v22 := Tryz.zeroValue54
  i3 := by kernel_rfl }
open Go.RowKit Go.Lib Go.Sort in
theorem Tryz.slices_Delete_int (blk off cap i j : Nat) (zs : List Int) (w : World) (hH : Holds (Value.int .i64) w blk off zs.toArray) (hcap : zs.length ≤ cap) (hm : cap ≤ 9223372036854775807) (hij : i ≤ j) (hj : j ≤ zs.length) :
    Calls Tryz.prog 60 #[.slice (some ⟨blk, off, none⟩) zs.length cap, .int .i64 i, .int .i64 j] w fun e w' => e = .returned (.slice (some ⟨blk, off, none⟩) (zs.length - (j - i)) cap) ∧ ∃ q, w' = putRow (Value.int .i64) (Sort.ahead w q) blk off (zs.take i ++ zs.drop j ++ List.replicate (j - i) 0).toArray := Any.slices_Delete_int Tryz.laysNm223 blk off cap i j zs w hH hcap hm hij hj
end Go.Proofs
end

section
namespace Go.Proofs.YtioeimkaljmffaaGreatDoor
open Go.RowKit Go Go.Sort Go.Maps Go.WideMaps
set_option linter.unusedVariables false
set_option maxRecDepth 20000

theorem wheap_same {w : World} {b : Nat} {c : Array Value} {e : TypeId} {fr : Nat × Nat} (f : Array Value → Array Value) (h : w.heap[b]? = some (.cells c e fr)) : (mapBlock w b f).heap[b]? = some (.cells (f c) e fr) := by
  unfold mapBlock
  simp [Array.getElem?_modify, h, onCells]
theorem wheap_other {w : World} {b k : Nat} (f : Array Value → Array Value) (h : k ≠ b) : (mapBlock w b f).heap[k]? = w.heap[k]? := by
  unfold mapBlock
  simp [Array.getElem?_modify, Ne.symm h]
theorem lCells_iarr : ∀ l : List Int, lCells iarr l = l.map (Value.int .i64)
  | [] => rfl
  | x :: l => by
    show (iarr x).toList ++ lCells iarr l = _
    rw [lCells_iarr l]
    rfl
theorem wput_take (F : Array Int) (cur : Array Value) (n : Nat) (hn : n ≤ F.size) (h : F.size ≤ cur.size) : (putCells (Value.int .i64) 0 F cur).toList.take n = (F.toList.take n).map (Value.int .i64) := by
  apply List.ext_getElem?
  intro t
  by_cases ht : t < n
  · rw [List.getElem?_take_of_lt ht, Array.getElem?_toList, List.getElem?_map, List.getElem?_take_of_lt ht, Array.getElem?_toList]
    unfold putCells
    rw [Array.getElem?_mapIdx, Array.getElem?_eq_getElem (show t < cur.size by omega), Array.getElem?_eq_getElem (show t < F.size by omega)]
    have h5 : t < F.size := by omega
    simp [h5]
  · rw [List.getElem?_eq_none (by rw [List.length_take]; omega), List.getElem?_eq_none (by rw [List.length_map, List.length_take]; omega)]
theorem ldelete_c {w : World} {B : Nat} {v : Value} {x : Int} {l : List Int} (h : OwnL 1 3 iarr w B v (x :: l)) : Calls Tryz.prog 60 #[v, .int .i64 0, .int .i64 1] w (fun e W => ∃ a' m' c', e = .returned (.slice a' m' c') ∧ OwnL 1 3 iarr W B (.slice a' m' c') l ∧ (Value.slice a' m' c').ownBlock = v.ownBlock ∧ Trn (fun k => v.ownBlock = some k) w W) := by
  obtain ⟨h1, h2⟩ := h
  rcases h2 with ⟨-, h⟩ | ⟨g, cap, cur, rfl, hB, hg, hnc, hcm, hcs, htk⟩
  · simp at h
  · have hlen : (x :: l).length ≤ cur.size := by omega
    have hcell : ∀ j, j < (x :: l).length → cur[j]? = some (.int .i64 ((x :: l).toArray[j]!)) := fun j hj => by
      have h3 : (cur.toList.take ((x :: l).length * 1))[j]? = (lCells iarr (x :: l))[j]? := by rw [htk]
      rw [List.getElem?_take_of_lt (by omega), Array.getElem?_toList, lCells_iarr, List.getElem?_map, List.getElem?_eq_getElem hj] at h3
      rw [h3, getElem!_pos _ j (by simpa using hj)]
      simp
    have hH : Holds (Value.int .i64) w g 0 (x :: l).toArray := fun j hj => by
      have hj2 : j < (x :: l).length := by simpa using hj
      refine ⟨?_, frozen_of_row w g (0 + j) cur 3 hg⟩
      rw [Nat.zero_add, cell_of_row w g j cur 3 (0, 0) hg]
      exact hcell j hj2
    refine (Tryz.slices_Delete_int g 0 cap 0 1 (x :: l) w hH hnc (by unfold maxLen at hcm; omega) (by omega) (by simp)).mono fun e W ⟨he, q, hW⟩ => ?_
    have hl1 : (x :: l).length - (1 - 0) = l.length := by simp
    rw [hl1] at he
    have hF : ((x :: l).take 0 ++ (x :: l).drop 1 ++ List.replicate (1 - 0) (0 : Int)) = l ++ [0] := rfl
    rw [hF] at hW
    have hlt : g < w.heap.size := (Array.getElem?_eq_some_iff.1 hg).1
    refine ⟨_, _, _, he, ⟨by rw [lCells_iarr]; simp, .inr ⟨g, cap, putCells (Value.int .i64) 0 (l ++ [0]).toArray cur, rfl, hB, ?_, by simp only [List.length_cons] at hnc; omega, hcm, by rw [← hcs]; unfold putCells; simp, ?_⟩⟩, rfl, ?_⟩
    · rw [hW]
      exact wheap_same (w := Sort.ahead w q) _ hg
    · rw [Nat.mul_one, wput_take _ _ _ (by simp) (by simp only [List.size_toArray, List.length_append, List.length_cons, List.length_nil] at *; omega), lCells_iarr]
      simp
    · rw [hW]
      refine ⟨rfl, rfl, rfl, by rw [size_putRow]; exact Nat.le_refl _, fun k hk hn => wheap_other (w := Sort.ahead w q) _ fun e => hn ?_⟩
      rw [e]
      rfl
end Go.Proofs.YtioeimkaljmffaaGreatDoor
end

section
namespace Go.Proofs.YtioeimkaljmffaaGreatDoor
open Go.RowKit Go Go.Sort Go.Maps Go.WideMaps
set_option linter.unusedVariables false
set_option maxRecDepth 20000

/-- Segments dropped while the next one begins at n at most. -/
def retF (n : Int) : List Int → Ds → Int × Ds × List Int
  | b :: b2 :: r, st => if b2 ≤ n then (if (st.drop (nameW 119 b)).1 = 0 then retF n (b2 :: r) (st.drop (nameW 119 b)).2 else ((st.drop (nameW 119 b)).1, (st.drop (nameW 119 b)).2, b :: b2 :: r)) else (0, st, b :: b2 :: r)
  | l, st => (0, st, l)
theorem retF_one (n : Int) {l : List Int} (st : Ds) (h : l.length ≤ 1) : retF n l st = (0, st, l) := by
  match l, h with
  | [], _ => rfl
  | [_], _ => rfl
theorem retF_stop {n b b2 : Int} {r : List Int} {st : Ds} (h : ¬ b2 ≤ n) : retF n (b :: b2 :: r) st = (0, st, b :: b2 :: r) := by rw [retF, if_neg h]
theorem retF_err {n b b2 : Int} {r : List Int} {st : Ds} (h : b2 ≤ n) (he : ¬ (st.drop (nameW 119 b)).1 = 0) : retF n (b :: b2 :: r) st = ((st.drop (nameW 119 b)).1, (st.drop (nameW 119 b)).2, b :: b2 :: r) := by rw [retF, if_pos h, if_neg he]
theorem retF_go {n b b2 : Int} {r : List Int} {st : Ds} (h : b2 ≤ n) (he : (st.drop (nameW 119 b)).1 = 0) : retF n (b :: b2 :: r) st = retF n (b2 :: r) (st.drop (nameW 119 b)).2 := by rw [retF, if_pos h, if_pos he]
/-- What Retire tells, and leaves. -/
def rtyL (st : Ds) (g : Lg) (n : Int) : Int × Ds × Lg := if st.fails ≠ g.fails then (150, st, g) else ((retF n g.B st).1, (retF n g.B st).2.1, { g with B := (retF n g.B st).2.2 })
theorem GOk.tail {g : Lg} {n : Nat} {x y : Int} {r : List Int} (h : GOk g n) (hB : g.B = x :: y :: r) : GOk { g with B := y :: r } n := by
  obtain ⟨h1, h2, h3, h4, h5, h6⟩ := h
  rw [hB] at h2 h3
  exact ⟨by simp, by simp at h2 ⊢; omega, fun z hz => h3 z (List.mem_cons_of_mem _ hz), h4, h5, h6⟩
section
variable {w0 W : World} {q p : Nat} {st : Ds} {g : Lg}
theorem wg_drop (h : Wg w0 q p st g W) (nm : List UInt8) (hn : nm.length ≤ 9223372036854775807) : Calls Tryz.prog 59 #[.pointer (some ⟨q, 0, none⟩), .string (text nm)] W (fun e W' => e = .returned (.int .i64 (st.drop nm).1) ∧ Wg w0 q p (st.drop nm).2 g W') := by
  obtain ⟨F, G, hd, hr, h1, h2, h3, hb⟩ := h
  exact (lw_drop (Lw.start hd hr h1) nm hn).mono fun e W' ⟨he, hl⟩ => ⟨he, wg_of h2 h3 hb hl⟩
theorem wg_delete {W3 : World} {bv v' : Value} {l : List Int} (h : Wg w0 q p st g W) (hl : LogIn W p q bv g) (ht : Trn (fun k => bv.ownBlock = some k) W W3) (ho : OwnL 1 3 iarr W3 0 v' l) (he : v'.ownBlock = bv.ownBlock) : Wg w0 q p st { g with B := l } (W3.setCell ⟨p, 2, none⟩ v') := by
  obtain ⟨F, G, hd, ⟨bv2, hl2, rfl⟩, hn, h2, h3, hb⟩ := h
  obtain rfl : bv2 = bv := by
    have e1 := hl2.cs.2.2.1
    rw [hl.cs.2.2.1] at e1
    exact (Option.some.inj e1).symm
  have hg : W3.heap[p]? = W.heap[p]? := ht.block p (hl.lt (.inl rfl)) (fun e => hl.off e rfl)
  have hl' := hl.relist hg ho
  have hT : Trn (lgfoot p bv2) W (W3.setCell ⟨p, 2, none⟩ v') := (ht.mono (fun k hk => .inr hk)).set (p := ⟨p, 2, none⟩) (.inl (.inl rfl))
  have hF : ∀ k, lgfoot p v' k → lgfoot p bv2 k := fun k hk => hk.elim .inl (fun e => .inr (he.symm.trans e))
  exact ⟨F, lgfoot p v', wdk_keep hd (fun k hk => hT.block k (wdk_lt hd hk) (hn k hk)), ⟨v', hl', rfl⟩, fun k hk hg => hn k hk (hF k hg), h2, fun k hk => h3 k (hF k hk), hb.trans (hT.base hb.size h3)⟩
end
/-- The length of the list that a cell holds. -/
def listN (w : World) (p : Nat) : Nat := match w.cell? ⟨p, 2, none⟩ with
  | some (.slice _ m _) => m
  | _ => 0
theorem listN_of {w : World} {p q : Nat} {bv : Value} {g : Lg} (h : LogIn w p q bv g) : listN w p = g.B.length := by
  obtain ⟨a, cap, hv, -⟩ := h.place
  unfold listN
  rw [h.cs.2.2.1, hv]
set_option maxRecDepth 100000 in
set_option maxHeartbeats 6400000 in
theorem lretire_c {w0 W : World} {q p k : Nat} {st : Ds} {g : Lg} (h : Wg w0 q p st g W) (hg : GOk g k) (hT : TabE w0) (n : Int) : Calls Tryz.prog 25 #[.pointer (some ⟨p, 0, none⟩), .int .i64 n] W (fun e W' => e = .returned (.int .i64 (rtyL st g n).1) ∧ Wg w0 q p (rtyL st g n).2.1 (rtyL st g n).2.2 W') := by
  have HRY := Lib.hid (lready_c h)
  have HTE := Lib.hid hT
  by_cases hf : st.fails = g.fails
  · rw [if_pos hf] at HRY
    obtain ⟨⟨r, s, Bf⟩, hr⟩ : ∃ z, retF n g.B st = z := ⟨_, rfl⟩
    rw [show rtyL st g n = (r, s, { g with B := Bf }) from by unfold rtyL; rw [if_neg (fun h => h hf), hr]]
    have HI := Lib.hid (show ∃ (st' : Ds) (B : List Int), Wg w0 q p st' { g with B := B } W ∧ GOk { g with B := B } k ∧ retF n B st' = (r, s, Bf) from ⟨st, g.B, h, hg, hr⟩)
    clear h hg hT hf hr
    go_enter Tryz.func25, Tryz.ntmps25
    go_wp2_with (go_at_call 51; (with_reducible refine HRY.out.mono ?_); rintro e1 w1 ⟨rfl, hb1⟩; have HB1 := Lib.hid hb1; clear hb1)
    go_loopw [] (fun wr => ∃ (st' : Ds) (B : List Int), Wg w0 q p st' { g with B := B } wr ∧ GOk { g with B := B } k ∧ retF n B st' = (r, s, Bf)) (fun wr => listN wr p)
    case atStart =>
      obtain ⟨st', B, h1, h2, h3⟩ := HI.out
      exact ⟨st', B, h1.below HB1.out, h2, h3⟩
    case round =>
      obtain ⟨st', B, hw, hk, hr⟩ := hrel
      obtain ⟨bv, hl⟩ := hw.cs
      obtain ⟨a, cap, hv, hle, hmx, -⟩ := hl.place
      subst hv
      have hle2 : B.length ≤ cap := hle
      match B, hw, hk, hr, hl, hle2 with
      | [], hw, hk, hr, hl, hle2 => exact absurd hk.ne (by simp)
      | [b], hw, hk, hr, hl, hle2 =>
        rw [retF_one n st' (by simp)] at hr
        injection hr with hr1 hr2
        injection hr2 with hr2 hr3
        subst hr1 hr2 hr3
        have HW := Lib.hid hw
        have c2 : wr.cell? ⟨p, 2, none⟩ = some (.slice a 1 cap) := hl.cs.2.2.1
        clear hw hk hl hle hle2 hmx
        go_wp2
        go_ret
        exact ⟨rfl, HW.out⟩
      | b :: b2 :: r2, hw, hk, hr, hl, hle2 =>
        have HW := Lib.hid hw
        have HK := Lib.hid hk
        have HLN := Lib.hid (listN_of hl)
        obtain ⟨bb, oo, rfl, d1⟩ := llist_at hl (k := 1) (by simp)
        obtain ⟨bb', oo', e7, d0⟩ := llist_at hl (k := 0) (by simp)
        injection e7 with e7
        injection e7 with e7 e8
        subst e7 e8
        have HLG := Lib.hid (show LogIn wr p q (.slice (some ⟨bb, oo, none⟩) (b :: b2 :: r2).length cap) { g with B := b :: b2 :: r2 } from hl)
        have d1 : wr.cell? ⟨bb, oo + 1, none⟩ = some (.int .i64 b2) := d1
        have d0 : wr.cell? ⟨bb, oo + 0, none⟩ = some (.int .i64 b) := d0
        rw [Nat.add_zero] at d0
        have c2 : wr.cell? ⟨p, 2, none⟩ = some (.slice (some ⟨bb, oo, none⟩) (b :: b2 :: r2).length cap) := hl.cs.2.2.1
        have hm1 : (1 : Int) < ((b :: b2 :: r2).length : Int) := by simp only [List.length_cons]; omega
        obtain ⟨m, hm⟩ : ∃ z, (b :: b2 :: r2).length = z := ⟨_, rfl⟩
        rw [hm] at c2 hm1 HLG
        have HMM := Lib.hid hm
        have hb0 := hk.each b (by simp)
        have HD0 := Lib.hid d0
        have HC2 := Lib.hid c2
        have HM1 := Lib.hid hm1
        clear hw hk hl hle hle2 hmx hm
        by_cases hb2 : b2 ≤ n
        · obtain ⟨nm, hnm⟩ : ∃ z, nameW 119 b = z := ⟨_, rfl⟩
          have hnl : nm.length ≤ 9223372036854775807 := by rw [← hnm]; have := nameW_len 119 b; omega
          obtain ⟨r1, hr1⟩ : ∃ z, (st'.drop nm).1 = z := ⟨_, rfl⟩
          obtain ⟨s1, hs1⟩ : ∃ z, (st'.drop nm).2 = z := ⟨_, rfl⟩
          have HNA := Lib.hid (fun (W' : World) (hb : Below wr.heap.size wr W') => (show Calls Tryz.prog 29 #[.int .i64 b] W' (Tells (.string (text nm)) W') from by
            have := wname_c b (by omega) (by omega) (HTE.out.i.grown (HW.out.below hb).b)
            rw [hnm] at this
            exact this))
          have HDP := Lib.hid (fun (W' : World) (hb : Below wr.heap.size wr W') => by
            have := wg_drop (HW.out.below hb) nm hnl
            rw [hr1, hs1] at this
            exact this)
          have HRR := Lib.hid (show (if r1 = 0 then retF n (b2 :: r2) s1 else (r1, s1, b :: b2 :: r2)) = (r, s, Bf) from by
            by_cases h9 : r1 = 0
            · rw [if_pos h9, ← hr, retF_go hb2 (by rw [hnm, hr1]; exact h9), hnm, hs1]
            · rw [if_neg h9, ← hr, retF_err hb2 (by rw [hnm, hr1]; exact h9), hnm, hr1, hs1])
          clear hnm hnl hr1 hs1 hr hb0
          go_upto_region 5 with (fail)
          clear d0 d1 c2 hm1
          refine wp_region_flow_tail 13 [none, none, none, none, none, none, none, none, none, none, none, none, none, none, none, none, none, none, none, none, none, none, none, none, none, none, none, none, none, none, some 0, some 1, some 2, some 3, some 4, some 5, some 6, some 7, some 8, some 9, some 10, some 11, some 12, none, none, none, none, none, none, none, none, none, none, none, none, none, none] (fun i => [u30, u31, u32, u33, u34, u35, u36, u37, u38, u39, u40, u41, u42].getD i undef) [(fun v _ => v = .pointer (some ⟨p, 0, none⟩)), (fun v _ => v = .pointer (some ⟨p, 0, none⟩)), (fun v _ => v = .pointer (some ⟨p, 0, none⟩)), (fun v _ => v = .pointer (some ⟨p, 0, none⟩)), (fun v _ => v = .pointer (some ⟨q, 0, none⟩)), (fun v _ => v = .pointer (some ⟨p, 0, none⟩)), (fun v _ => v = .pointer (some ⟨p, 0, none⟩)), (fun v _ => v = .pointer (some ⟨p, 0, none⟩)), (fun v _ => v = .pointer (some ⟨p, 2, none⟩)), (fun v _ => v = .slice (some ⟨bb, oo, none⟩) m cap), (fun v _ => v = .pointer (some ⟨bb, oo, none⟩)), (fun v _ => v = .int .i64 b), (fun v _ => v = .string (text nm))] (fun _ => False) (by kernel_rfl) (by kernel_rfl) (by kernel_rfl) rfl rfl rfl ?_ ?_ ?_
          · intro g hg v X Y hX hY hv
            simp only [List.mem_cons, List.not_mem_nil, or_false] at hg
            rcases hg with rfl | rfl | rfl | rfl | rfl | rfl | rfl | rfl | rfl | rfl | rfl | rfl | rfl
            all_goals first
              | exact hv
              | exact hv.kept hY
          · simp only [flowOpsF, List.take_succ_cons, List.take_zero, and_true]
            refine ⟨?_, ?_, ?_, ?_, ?_, ?_, ?_, ?_, ?_, ?_, ?_, ?_, ?_⟩
            · intro xs W9 hW hn9
              simp only [flowAct, List.zipWith_cons_cons, List.zipWith_nil_left]
              go_wp2_with (fail)
              exact ⟨rfl, _, rfl, Below.refl _ _, rfl, fun h => h.elim⟩
            · intro xs W9 hW hn9
              simp [flowNeeds, Region.binds] at hn9
              simp only [flowAct, List.zipWith_cons_cons, List.zipWith_nil_left]
              try simp only [hn9]
              go_wp2_with (fail)
              exact ⟨rfl, _, rfl, Below.refl _ _, rfl, fun h => h.elim⟩
            · intro xs W9 hW hn9
              simp [flowNeeds, Region.binds] at hn9
              simp only [flowAct, List.zipWith_cons_cons, List.zipWith_nil_left]
              try simp only [hn9]
              go_wp2_with (fail)
              exact ⟨rfl, _, rfl, Below.refl _ _, rfl, fun h => h.elim⟩
            · intro xs W9 hW hn9
              simp [flowNeeds, Region.binds] at hn9
              simp only [flowAct, List.zipWith_cons_cons, List.zipWith_nil_left]
              try simp only [hn9]
              go_wp2_with (fail)
              exact ⟨rfl, _, rfl, Below.refl _ _, rfl, fun h => h.elim⟩
            · intro xs W9 hW hn9
              simp [flowNeeds, Region.binds] at hn9
              have hl9 := HLG.out.below hW
              obtain ⟨c0, c1, c2, c3, c4, c5, c6⟩ := hl9.cs
              clear hl9
              simp only [flowAct, List.zipWith_cons_cons, List.zipWith_nil_left]
              try simp only [hn9]
              go_wp2_with (fail)
              exact ⟨rfl, _, rfl, Below.refl _ _, rfl, fun h => h.elim⟩
            · intro xs W9 hW hn9
              simp only [flowAct, List.zipWith_cons_cons, List.zipWith_nil_left]
              go_wp2_with (fail)
              exact ⟨rfl, _, rfl, Below.refl _ _, rfl, fun h => h.elim⟩
            · intro xs W9 hW hn9
              simp [flowNeeds, Region.binds] at hn9
              simp only [flowAct, List.zipWith_cons_cons, List.zipWith_nil_left]
              try simp only [hn9]
              go_wp2_with (fail)
              exact ⟨rfl, _, rfl, Below.refl _ _, rfl, fun h => h.elim⟩
            · intro xs W9 hW hn9
              simp [flowNeeds, Region.binds] at hn9
              simp only [flowAct, List.zipWith_cons_cons, List.zipWith_nil_left]
              try simp only [hn9]
              go_wp2_with (fail)
              exact ⟨rfl, _, rfl, Below.refl _ _, rfl, fun h => h.elim⟩
            · intro xs W9 hW hn9
              simp [flowNeeds, Region.binds] at hn9
              simp only [flowAct, List.zipWith_cons_cons, List.zipWith_nil_left]
              try simp only [hn9]
              go_wp2_with (fail)
              exact ⟨rfl, _, rfl, Below.refl _ _, rfl, fun h => h.elim⟩
            · intro xs W9 hW hn9
              simp [flowNeeds, Region.binds] at hn9
              have hl9 := HLG.out.below hW
              obtain ⟨c0, c1, c2, c3, c4, c5, c6⟩ := hl9.cs
              clear hl9
              simp only [flowAct, List.zipWith_cons_cons, List.zipWith_nil_left]
              try simp only [hn9]
              go_wp2_with (fail)
              exact ⟨rfl, _, rfl, Below.refl _ _, rfl, fun h => h.elim⟩
            · intro xs W9 hW hn9
              simp [flowNeeds, Region.binds] at hn9
              have hm1 := HM1.out
              have hm0 : (0 : Int) < (m : Int) := by omega
              simp only [flowAct, List.zipWith_cons_cons, List.zipWith_nil_left]
              try simp only [hn9]
              go_wp2_with (fail)
              exact ⟨rfl, _, rfl, Below.refl _ _, rfl, fun h => h.elim⟩
            · intro xs W9 hW hn9
              simp [flowNeeds, Region.binds] at hn9
              have c7 : W9.cell? ⟨bb, oo, none⟩ = some (.int .i64 b) := by rw [hW.cell (World.block_lt_of_cell? wr _ HD0.out)]; exact HD0.out
              simp only [flowAct, List.zipWith_cons_cons, List.zipWith_nil_left]
              try simp only [hn9]
              go_wp2_with (fail)
              exact ⟨rfl, _, rfl, Below.refl _ _, rfl, fun h => h.elim⟩
            · intro xs W9 hW hn9
              simp [flowNeeds, Region.binds] at hn9
              simp only [flowAct, List.zipWith_cons_cons, List.zipWith_nil_left]
              try simp only [hn9]
              go_wp2_with (go_at_call 29; (with_reducible refine (HNA.out _ hW).mono ?_); rintro e9 w9 ⟨rfl, hb9⟩)
              exact ⟨rfl, _, rfl, hb9, rfl, fun h => h.elim⟩
          · intro xs W9 hW hall hfr
            clear hfr
            simp only [flowAll, and_true, Nat.zero_add, Nat.reduceAdd] at hall
            obtain ⟨-, -, -, -, a4, -, -, -, -, -, -, -, a12⟩ := hall
            simp only [flowAct, List.zipWith_cons_cons, List.zipWith_nil_left, List.drop_succ_cons, List.drop_zero]
            simp only [a4, a12]
            clear a4 a12
            have HWB := Lib.hid hW
            clear hW
            by_cases hr0 : r1 = 0
            · subst hr0
              have hRR := HRR.out
              rw [if_pos rfl] at hRR
              have HRG := Lib.hid hRR
              clear hRR
              go_upto_region 8 with (go_at_call 59; (with_reducible refine (HDP.out _ HWB.out).mono ?_); rintro e2 w2 ⟨rfl, hw2⟩; have HW2 := Lib.hid hw2; clear hw2)
              obtain ⟨bv2, hl2⟩ := HW2.out.cs
              have HL2 := Lib.hid hl2
              have c2 := hl2.cs.2.2.1
              have f2 := hl2.fz 2
              have HDL := Lib.hid (ldelete_c hl2.list)
              clear hl2
              go_wp2_with (go_at_call 60; (with_reducible refine HDL.out.mono ?_); rintro e3 w3 ⟨a3, m3, n3, rfl, ho3, he3, ht3⟩; have HO3 := Lib.hid ho3; have HE3 := Lib.hid he3; have HT3 := Lib.hid ht3; have f3 : w3.frozen? ⟨p, 2, none⟩ = false := frozen_of_row w3 p 2 _ 87 ((HT3.out.block p (HL2.out.lt (.inl rfl)) (fun e => HL2.out.off e rfl)).trans HL2.out.head); have c3 : w3.cell? ⟨p, 2, none⟩ = some bv2 := (by have h8 := HT3.out.block p (HL2.out.lt (.inl rfl)) (fun e => HL2.out.off e rfl); have h9 := HL2.out.cs.2.2.1; simpa only [World.cell?, h8] using h9); clear ho3 he3 ht3)
              have HWN := Lib.hid (wg_delete HW2.out HL2.out HT3.out HO3.out HE3.out)
              go_roundw
              case rel => exact ⟨s1, b2 :: r2, HWN.out, HK.out.tail rfl, HRG.out⟩
              case measure =>
                obtain ⟨bv9, hl9⟩ := HWN.out.cs
                rw [listN_of hl9, HLN.out]
                simp
            · have hrb : (r1 == 0) = false := by rw [beq_eq_false_iff_ne]; exact hr0
              have hRR := HRR.out
              rw [if_neg hr0] at hRR
              injection hRR with hr1 hr2
              injection hr2 with hr2 hr3
              subst hr1 hr2 hr3
              go_wp2_with (go_at_call 59; (with_reducible refine (HDP.out _ HWB.out).mono ?_); rintro e2 w2 ⟨rfl, hw2⟩; have HW2 := Lib.hid hw2; clear hw2)
              go_ret
              exact ⟨rfl, HW2.out⟩
        · rw [retF_stop hb2] at hr
          injection hr with hr1 hr2
          injection hr2 with hr2 hr3
          subst hr1 hr2 hr3
          go_wp2
          go_ret
          exact ⟨rfl, HW.out⟩
  · rw [if_neg hf] at HRY
    rw [show rtyL st g n = (150, st, g) from by unfold rtyL; rw [if_pos hf]]
    have HW := Lib.hid h
    clear h hg hT hf
    go_enter Tryz.func25, Tryz.ntmps25
    go_wp2_with (go_at_call 51; (with_reducible refine HRY.out.mono ?_); rintro e1 w1 ⟨rfl, hb1⟩; have HB1 := Lib.hid hb1; clear hb1)
    go_ret
    exact ⟨rfl, HW.out.below HB1.out⟩
end Go.Proofs.YtioeimkaljmffaaGreatDoor
end

section
namespace Go.Proofs.YtioeimkaljmffaaGreatDoor
open Go.RowKit Go Go.Sort Go.Maps Go.WideMaps
set_option linter.unusedVariables false
set_option maxRecDepth 20000

theorem readF_rest {st : Ds} : ∀ (B : List Int) (acc : List (List UInt8)) (g : Lg), (readF st B acc g).2.fails = g.fails ∧ (readF st B acc g).2.sure = g.sure ∧ (readF st B acc g).2.most = g.most
  | [], _, _ => ⟨rfl, rfl, rfl⟩
  | [b], acc, g => by
    by_cases h0 : (st.read (nameW 119 b)).2 = 0
    · rw [readF_last h0 rfl rfl]
      exact ⟨rfl, rfl, rfl⟩
    · rw [readF_err h0]
      exact ⟨rfl, rfl, rfl⟩
  | b :: b2 :: r, acc, g => by
    by_cases h0 : (st.read (nameW 119 b)).2 = 0
    · by_cases h4 : (rowsS ((st.read (nameW 119 b)).1.getD [])).2.2 = 0 ∧ b + ((rowsS ((st.read (nameW 119 b)).1.getD [])).1.length : Int) = b2
      · rw [readF_go h0 rfl (show rowsS ((st.read (nameW 119 b)).1.getD []) = (_, _, 0) from by rw [← h4.1]) h4.2]
        exact readF_rest (b2 :: r) _ _
      · rw [readF_bad h0 rfl rfl h4]
        exact ⟨rfl, rfl, rfl⟩
    · rw [readF_err h0]
      exact ⟨rfl, rfl, rfl⟩
theorem syncL_rest (st : Ds) (g : Lg) : (syncL st g).2.2.size = g.size ∧ (syncL st g).2.2.fails = g.fails ∧ (syncL st g).2.2.most = g.most := by
  unfold syncL
  split <;> exact ⟨rfl, rfl, rfl⟩
theorem settleL_full {st : Ds} {g : Lg} (h : ¬ g.B = []) (torn : Bool) : (settleL st g torn).2.2.B = g.B ∧ (settleL st g torn).2.2.next = g.next ∧ (settleL st g torn).2.2.size = g.size ∧ (settleL st g torn).2.2.fails = g.fails ∧ (settleL st g torn).2.2.most = g.most := by
  unfold settleL
  rw [if_neg h]
  split
  · split
    · exact ⟨(syncL_next _ g).2, (syncL_next _ g).1, syncL_rest _ g⟩
    · exact ⟨rfl, rfl, rfl, rfl, rfl⟩
  · exact ⟨(syncL_next _ g).2, (syncL_next _ g).1, syncL_rest _ g⟩
theorem rowsF_size : ∀ (f : Nat) (l : List UInt8) (a : Nat) (acc : List (List UInt8)), a ≤ l.length → (rowsF f l a acc).2.1 ≤ l.length
  | 0, _, _, _, h => h
  | f + 1, l, a, acc, h => by
    rw [rowsF]
    split
    · exact h
    · split
      · rename_i h9
        refine rowsF_size f l _ _ ?_
        rcases openS_cases (l.drop a) with ⟨e, he, hne⟩ | ⟨m, k, he, h6, hk, -⟩
        · rw [he] at h9
          exact absurd h9 hne
        · rw [he]
          rw [List.length_drop] at hk
          show a + ((k : Int)).toNat ≤ l.length
          rw [Int.toNat_natCast]
          omega
      · exact h
theorem rowsS_size (l : List UInt8) : (rowsS l).2.1 ≤ l.length := rowsF_size _ l 0 [] (Nat.zero_le _)
theorem readF_size {st : Ds} (hsz : ∀ x, ((st.read (nameW 119 x)).1.getD []).length ≤ 99999) : ∀ (B : List Int) (acc : List (List UInt8)) (g : Lg), 0 ≤ g.size ∧ g.size ≤ 99999 → 0 ≤ (readF st B acc g).2.size ∧ (readF st B acc g).2.size ≤ 99999
  | [], _, _, h => h
  | [b], acc, g, h => by
    have h2 := rowsS_size ((st.read (nameW 119 b)).1.getD [])
    have h3 := hsz b
    have hb : 0 ≤ (((rowsS ((st.read (nameW 119 b)).1.getD [])).2.1 : Nat) : Int) ∧ (((rowsS ((st.read (nameW 119 b)).1.getD [])).2.1 : Nat) : Int) ≤ 99999 := by omega
    by_cases h0 : (st.read (nameW 119 b)).2 = 0
    · rw [readF_last h0 rfl rfl]
      exact hb
    · rw [readF_err h0]
      exact h
  | b :: b2 :: r, acc, g, h => by
    have h2 := rowsS_size ((st.read (nameW 119 b)).1.getD [])
    have h3 := hsz b
    have hb : 0 ≤ (((rowsS ((st.read (nameW 119 b)).1.getD [])).2.1 : Nat) : Int) ∧ (((rowsS ((st.read (nameW 119 b)).1.getD [])).2.1 : Nat) : Int) ≤ 99999 := by omega
    by_cases h0 : (st.read (nameW 119 b)).2 = 0
    · by_cases h4 : (rowsS ((st.read (nameW 119 b)).1.getD [])).2.2 = 0 ∧ b + ((rowsS ((st.read (nameW 119 b)).1.getD [])).1.length : Int) = b2
      · rw [readF_go h0 rfl (show rowsS ((st.read (nameW 119 b)).1.getD []) = (_, _, 0) from by rw [← h4.1]) h4.2]
        exact readF_size hsz (b2 :: r) _ _ hb
      · rw [readF_bad h0 rfl rfl h4]
        exact hb
    · rw [readF_err h0]
      exact h
theorem openL_gok {st : Ds} {size : Int} (hlen : st.F.length ≤ 64) (hsz : ∀ f ∈ st.F, f.b.length ≤ 99999) (hnz : ¬ (st.read []).2 = 0) (h : (openL st size).1 = 0) : GOk (openL st size).2.2.1 0 := by
  have hrl : ∀ x, (((st.read (nameW 119 x)).1).getD []).length ≤ 99999 := fun x => by
    unfold Ds.read
    split
    · simp
    · split
      · simp
      · rename_i f hf
        exact hsz f (List.mem_of_find?_eq_some hf)
  have hbl := numsF_len (st.F.map Fi.nm)
  rw [List.length_map] at hbl
  have hbr := numsF_range (st.F.map Fi.nm)
  unfold openL at h ⊢
  generalize numsF (st.F.map Fi.nm) = B at *
  have hi := readF_inv hrl B [] (lg0 st B size) hbr ⟨by show (0 : Int) ≤ 1; decide, by show (1 : Int) ≤ _; decide⟩
  have hs := readF_size hrl B [] (lg0 st B size) ⟨by show (0 : Int) ≤ 0; decide, by show (0 : Int) ≤ _; decide⟩
  have hr := readF_rest (st := st) B [] (lg0 st B size)
  generalize readF st B [] (lg0 st B size) = R at *
  obtain ⟨⟨recs, torn, er⟩, g1⟩ := R
  simp only at *
  split at h
  · exact absurd h hnz
  · rename_i h1
    rw [if_neg h1]
    split at h
    · exact absurd (show (2 : Int) = 0 from h) (by decide)
    · rename_i h2
      rw [if_neg h2]
      split at h
      · rename_i h3
        exact absurd h h3
      · rename_i h3
        rw [if_neg h3]
        have hm : g1.most = size := hr.2.2
        have hB1 : g1.B = B := hi.1
        by_cases hB : g1.B = []
        · have hst : settleL st g1 torn = beginL st g1 := by unfold settleL; rw [if_pos hB]
          rw [hst] at h ⊢
          unfold beginL at h ⊢
          split at h
          · rename_i h5
            rw [if_pos h5]
            refine ⟨by simp, by simp [hB], fun x hx => ?_, hi.2, ⟨by show (0 : Int) ≤ 0; decide, by show (0 : Int) ≤ _; omega⟩, ⟨by show 0 ≤ g1.most; omega, by show g1.most ≤ _; omega⟩⟩
            simp only [hB, List.nil_append] at hx
            rw [List.mem_singleton.1 hx]
            exact hi.2
          · rename_i h5
            exact absurd h h5
        · obtain ⟨e1, e2, e3, e4, e5⟩ := settleL_full (st := st) hB torn
          refine ⟨by rw [e1]; exact List.length_pos_iff.2 hB, by rw [e1, hB1]; omega, fun x hx => ?_, by rw [e2]; exact hi.2, by rw [e3]; omega, by rw [e5]; omega⟩
          rw [e1, hB1] at hx
          have := hbr x hx
          omega
end Go.Proofs.YtioeimkaljmffaaGreatDoor
end

section
namespace Go.Proofs.YtioeimkaljmffaaGreatDoor
open Go.RowKit Go Go.Sort Go.Maps Go.WideMaps
set_option linter.unusedVariables false
set_option maxRecDepth 20000

/-- Every file has a good name and K bytes at most. -/
def FineF (K : Nat) (F : List Fi) : Prop := ∀ f ∈ F, goodNm f.nm = true ∧ f.b.length ≤ K
theorem FineF.mono {K K' : Nat} {F : List Fi} (h : FineF K F) (hk : K ≤ K') : FineF K' F := fun f hf => ⟨(h f hf).1, Nat.le_trans (h f hf).2 hk⟩
theorem FineF.lose {K : Nat} {F : List Fi} (h : FineF K F) (keep : Int) : FineF K (F.map (Fi.lose keep)) := fun f hf => by
  obtain ⟨f0, hf0, rfl⟩ := List.mem_map.1 hf
  refine ⟨(h f0 hf0).1, Nat.le_trans ?_ (h f0 hf0).2⟩
  show (f0.b.take _).length ≤ _
  rw [List.length_take]
  omega
theorem FineF.set {K : Nat} {F : List Fi} {nm : List UInt8} {g : Fi → Fi} (h : FineF K F) (hg : ∀ f, goodNm f.nm = true ∧ f.b.length ≤ K → f ∈ F → f.nm = nm → goodNm (g f).nm = true ∧ (g f).b.length ≤ K) : FineF K (setF nm g F) := fun f hf => by
  obtain ⟨f0, hf0, rfl⟩ := List.mem_map.1 hf
  split
  · rename_i e
    exact hg f0 (h f0 hf0) hf0 e
  · exact h f0 hf0
theorem FineF.ins {K : Nat} {f : Fi} (h1 : goodNm f.nm = true ∧ f.b.length ≤ K) : ∀ {F : List Fi}, FineF K F → FineF K (insF f F)
  | [], _ => fun x hx => by
    rw [List.mem_singleton.1 hx]
    exact h1
  | y :: r, h => by
    unfold insF
    split
    · intro x hx
      rcases List.mem_cons.1 hx with rfl | hx
      · exact h1
      · exact h x hx
    · intro x hx
      rcases List.mem_cons.1 hx with rfl | hx
      · exact h x (List.mem_cons_self ..)
      · exact FineF.ins h1 (F := r) (fun z hz => h z (List.mem_cons_of_mem _ hz)) x hx
theorem FineF.opd {K : Nat} {st : Ds} {gd ga : List Fi → List Fi} (h1 : FineF K (gd st.F)) (h2 : FineF K (ga st.F)) : FineF K (st.opd gd ga).2.F := by
  unfold Ds.opd
  split
  · exact h2.lose _
  · exact h1
section
variable {K : Nat} {st : Ds} (h : FineF K st.F)
include h
theorem fine_make (nm : List UInt8) : FineF K (st.make nm).2.F := by
  unfold Ds.make
  split
  · exact h
  · split
    · exact h
    · rename_i hg
      split
      · exact h
      · split
        · exact h
        · exact FineF.opd (FineF.ins (f := ⟨nm, [], 0⟩) ⟨by simpa using hg, Nat.zero_le _⟩ h) h
theorem fine_sync (nm : List UInt8) : FineF K (st.sync nm).2.F := by
  unfold Ds.sync
  split
  · exact h
  · split
    · exact h
    · exact FineF.opd (h.set fun f hf _ _ => hf) h
theorem fine_cut (nm : List UInt8) (n : Int) : FineF K (st.cut nm n).2.F := by
  unfold Ds.cut
  split
  · exact h
  · split
    · exact h
    · split
      · exact h
      · refine FineF.opd (h.set fun f hf _ _ => ⟨hf.1, Nat.le_trans ?_ hf.2⟩) h
        show (f.b.take _).length ≤ _
        rw [List.length_take]
        omega
theorem fine_arm (n keep : Int) : FineF K (st.arm n keep).2.F := by
  unfold Ds.arm
  split
  · exact h
  · split
    · exact h
    · exact h
theorem fine_fail (keep : Int) : FineF K (st.fail keep).2.F := by
  unfold Ds.fail
  split
  · exact h
  · exact h.lose _
end
end Go.Proofs.YtioeimkaljmffaaGreatDoor
end

section
namespace Go.Proofs.YtioeimkaljmffaaGreatDoor
open Go.RowKit Go Go.Sort Go.Maps Go.WideMaps
set_option linter.unusedVariables false
set_option maxRecDepth 20000

section
variable {K : Nat} {st : Ds} (h : FineF K st.F)
include h
theorem fine_syncL (g : Lg) : FineF K (syncL st g).2.1.F := by
  unfold syncL
  split <;> exact fine_sync h _
theorem fine_beginL (g : Lg) : FineF K (beginL st g).2.1.F := by
  unfold beginL
  split <;> exact fine_make h _
theorem fine_settleL (g : Lg) (torn : Bool) : FineF K (settleL st g torn).2.1.F := by
  unfold settleL
  split
  · exact fine_beginL h g
  · split
    · split
      · exact fine_syncL (fine_cut h _ _) g
      · exact fine_cut h _ _
    · exact fine_syncL h g
theorem fine_openL (size : Int) : FineF K (openL st size).2.1.F := by
  unfold openL
  split
  · exact h
  · split
    · exact h
    · split
      · exact h
      · exact fine_settleL h _ _
end
end Go.Proofs.YtioeimkaljmffaaGreatDoor
end

section
namespace Go.Proofs.YtioeimkaljmffaaGreatDoor
set_option maxRecDepth 20000
open Go.RowKit
set_option linter.unusedVariables false

/-- What stands ahead of a body. -/
def headS (n : Nat) : List UInt8 := [181] ++ numB (n : Int)
theorem headS_size (n : Nat) (h : n ≤ 1048576) : ∃ q : Nat, sizeS (n : Int) = (q : Int) ∧ (headS n).length = 1 + q ∧ 1 ≤ q ∧ q ≤ 8 := by
  obtain ⟨k, hs, hk, _⟩ := sizeS_cases (n := (n : Int)) (by omega) (by omega)
  refine ⟨k, hs, ?_, by omega, by omega⟩
  unfold headS numB
  rw [hs]
  simp [numK_length]; omega
theorem wrapS_head {l : List UInt8} (h : l.length ≤ 1048576) : wrapS l = fixS (headS l.length ++ l) := wrapS_short h
theorem head_mark (n : Nat) (y : List UInt8) : byt8 (headS n ++ y) 0 = 181 := rfl
theorem head_get (n : Nat) (y : List UInt8) (h : n ≤ 1048576) {q : Nat} (hq : sizeS (n : Int) = (q : Int)) : getS ((headS n ++ y).drop 1) = ((n : Int), (q : Int), 0) := by
  rw [← hq]
  exact getS_num (n : Int) y (by omega) (by omega)

theorem wrapS_length {l : List UInt8} (h : l.length ≤ 1048576) : (wrapS l).length = (headS l.length).length + l.length + 4 := by
  rw [wrapS_head h, fixS_length, List.length_append]
theorem fixS_eq (l : List UInt8) : fixS l = l ++ four (sumS l) := rfl

theorem openS_wrap (l t : List UInt8) (h : l.length ≤ 1048576) : openS (wrapS l ++ t) = (l, ((wrapS l).length : Int), 0) := by
  obtain ⟨q, hq, hl, q1, q8⟩ := headS_size l.length h
  have hwl := wrapS_length h
  have hX : wrapS l ++ t = headS l.length ++ (l ++ (four (sumS (headS l.length ++ l)) ++ t)) := by rw [wrapS_head h, fixS_eq]; simp only [List.append_assoc]
  have hpos : 0 < (wrapS l ++ t).length := by rw [List.length_append]; omega
  have ht : (wrapS l ++ t).take (1 + q + l.length + 4) = wrapS l := by
    rw [List.take_append_of_le_length (by omega), List.take_of_length_le (by omega)]
  have hg := head_get l.length (l ++ (four (sumS (headS l.length ++ l)) ++ t)) h hq
  rw [← hX] at hg
  have hf := findS_good hpos (by rw [hX]; exact head_mark _ _) hg (by omega) (by rw [List.length_append]; omega) (by rw [ht, wrapS_head h]; exact rightS_fix _)
  rw [openS_good hf, show 1 + q + l.length - (1 + q) = l.length by omega, hX, ← hl, List.drop_left, List.take_left]
  rw [hwl]

end Go.Proofs.YtioeimkaljmffaaGreatDoor
end

section
namespace Go.Proofs.YtioeimkaljmffaaGreatDoor
set_option maxRecDepth 20000
open Go.RowKit
set_option linter.unusedVariables false

/-- Rows, by what is left. -/
def rowsH : Nat → List UInt8 → List (List UInt8) × Nat × Int
  | 0, _ => ([], 0, 0)
  | f + 1, l => if l = [] then ([], 0, 0) else if (openS l).2.2 = 0 then ((openS l).1 :: (rowsH f (l.drop (openS l).2.1.toNat)).1, (openS l).2.1.toNat + (rowsH f (l.drop (openS l).2.1.toNat)).2.1, (rowsH f (l.drop (openS l).2.1.toNat)).2.2) else ([], 0, (openS l).2.2)
theorem rowsF_H (f : Nat) (l : List UInt8) : ∀ (a : Nat) (acc : List (List UInt8)), rowsF f l a acc = (acc ++ (rowsH f (l.drop a)).1, a + (rowsH f (l.drop a)).2.1, (rowsH f (l.drop a)).2.2) := by
  induction f with
  | zero => intro a acc; simp [rowsF, rowsH]
  | succ f ih =>
    intro a acc
    by_cases ha : l.length ≤ a
    · rw [rowsF_end ha, List.drop_of_length_le ha]
      simp [rowsH]
    · have hne : ¬ l.drop a = [] := by
        intro h; have := congrArg List.length h; simp at this; omega
      rw [rowsF, if_neg ha, rowsH, if_neg hne]
      by_cases he : (openS (l.drop a)).2.2 = 0
      · rw [if_pos he, if_pos he, ih, List.drop_drop]
        simp only [List.append_assoc, List.singleton_append, Nat.add_assoc]
      · rw [if_neg he, if_neg he]; simp
theorem rowsS_H (l : List UInt8) : rowsS l = rowsH (l.length + 1) l := by
  unfold rowsS; rw [rowsF_H]; simp

theorem getS_torn (n : Nat) (h : n ≤ 1048576) (j : Nat) (hj : j < (numB (n : Int)).length) : getS ((numB (n : Int)).take j) = (0, 0, 10) := by
  obtain ⟨k, hs, hk, hlow⟩ := sizeS_cases (n := (n : Int)) (by omega) (by omega)
  have hnb : numB (n : Int) = numK (n : Int) k := by unfold numB; rw [hs]; rfl
  obtain ⟨m1, m2, m3⟩ := markS_div k hk
  have hk0 : 0 < k := by omega
  rw [hnb, numK_length] at hj
  rw [hnb, numK_cons _ k hk0]
  cases j with
  | zero => rfl
  | succ j =>
    rw [List.take_succ_cons]
    have hb : (UInt8.ofNat ((n : Int).toNat / 256 ^ (k - 1) % 256 + markS k)).toNat = (n : Int).toNat / 256 ^ (k - 1) + markS k := by
      generalize (n : Int).toNat / 256 ^ (k - 1) = x at *
      simp; omega
    have hbd : ((n : Int).toNat / 256 ^ (k - 1) + markS k) / 64 = markS k / 64 := by
      generalize (n : Int).toNat / 256 ^ (k - 1) = x at *
      omega
    simp only [getS]
    rw [hb, hbd, m1, if_pos (by rw [List.length_take, List.length_tail, rawB_length]; omega)]

theorem openS_torn (l : List UInt8) (h : l.length ≤ 1048576) (k : Nat) (h0 : 0 < k) (hk : k < (wrapS l).length) : openS ((wrapS l).take k) = ([], 0, 10) := by
  obtain ⟨q, hq, hl, q1, q8⟩ := headS_size l.length h
  have hwl := wrapS_length h
  have hF : wrapS l = headS l.length ++ (l ++ four (sumS (headS l.length ++ l))) := by rw [wrapS_head h, fixS_eq, List.append_assoc]
  have hXl : ((wrapS l).take k).length = k := by rw [List.length_take]; omega
  by_cases hc : 1 + q ≤ k
  · have hX : (wrapS l).take k = headS l.length ++ (l ++ four (sumS (headS l.length ++ l))).take (k - (1 + q)) := by
      rw [hF, List.take_append, hl, List.take_of_length_le (by omega)]
    have hg := head_get l.length ((l ++ four (sumS (headS l.length ++ l))).take (k - (1 + q))) h hq
    rw [← hX] at hg
    exact openS_bad (findS_cut (by omega) (by rw [hX]; exact head_mark _ _) hg (by omega) (by omega)) (by decide)
  · have hX : (wrapS l).take k = 181 :: (numB (l.length : Int)).take (k - 1) := by
      rw [hF, List.take_append_of_le_length (by omega)]
      unfold headS
      obtain ⟨k', rfl⟩ : ∃ k', k = k' + 1 := ⟨k - 1, by omega⟩
      simp
    have hnl : (numB (l.length : Int)).length = q := by have := hl; unfold headS at this; simp at this; omega
    have hg : getS (((wrapS l).take k).drop 1) = (0, 0, 10) := by
      rw [hX]
      exact getS_torn l.length h (k - 1) (by omega)
    exact openS_bad (findS_get (by omega) (by rw [hX]; rfl) hg (by decide)) (by decide)

/-- Frames one behind the other. -/
def framesS (bs : List (List UInt8)) : List UInt8 := (bs.map wrapS).flatten
theorem framesS_cons (b : List UInt8) (bs : List (List UInt8)) : framesS (b :: bs) = wrapS b ++ framesS bs := by simp [framesS]
theorem framesS_snoc (bs : List (List UInt8)) (b : List UInt8) : framesS (bs ++ [b]) = framesS bs ++ wrapS b := by simp [framesS]
/-- Where the first j of them end. -/
def endS (bs : List (List UInt8)) (j : Nat) : Nat := (framesS (bs.take j)).length
theorem endS_zero (bs : List (List UInt8)) : endS bs 0 = 0 := by simp [endS, framesS]
theorem endS_cons (b : List UInt8) (bs : List (List UInt8)) (j : Nat) : endS (b :: bs) (j + 1) = (wrapS b).length + endS bs j := by
  unfold endS; rw [List.take_succ_cons, framesS_cons, List.length_append]

theorem rowsH_torn : ∀ (bs : List (List UInt8)), (∀ b ∈ bs, b.length ≤ 1048576) → ∀ (k f : Nat), k ≤ (framesS bs).length → k < f →
    ∃ j, j ≤ bs.length ∧ endS bs j ≤ k ∧ (j < bs.length → k < endS bs (j + 1)) ∧ rowsH f ((framesS bs).take k) = (bs.take j, endS bs j, if endS bs j = k then 0 else 10) := by
  intro bs
  induction bs with
  | nil =>
    intro _ k f hk hf
    have hk0 : k = 0 := by simpa [framesS] using hk
    subst hk0
    obtain ⟨f', rfl⟩ : ∃ f', f = f' + 1 := ⟨f - 1, by omega⟩
    exact ⟨0, Nat.le_refl _, by rw [endS_zero]; exact Nat.le_refl _, by simp, by rw [endS_zero]; simp [framesS, rowsH]⟩
  | cons b bs ih =>
    intro hb k f hk hf
    have hb1 := hb b (by simp)
    have hw := wrapS_length hb1
    obtain ⟨f', rfl⟩ : ∃ f', f = f' + 1 := ⟨f - 1, by omega⟩
    rw [framesS_cons, List.length_append] at hk
    by_cases hc : (wrapS b).length ≤ k
    · have ht : (framesS (b :: bs)).take k = wrapS b ++ (framesS bs).take (k - (wrapS b).length) := by
        rw [framesS_cons, List.take_append, List.take_of_length_le hc]
      obtain ⟨j, hj, h1, h2, h3⟩ := ih (fun x hx => hb x (by simp [hx])) (k - (wrapS b).length) f' (by omega) (by omega)
      refine ⟨j + 1, by simp; omega, by rw [endS_cons]; omega, fun hlt => by rw [endS_cons]; have := h2 (by simp at hlt; omega); omega, ?_⟩
      have hne : ¬ wrapS b ++ (framesS bs).take (k - (wrapS b).length) = [] := by
        intro h; have := congrArg List.length h; rw [List.length_append, List.length_nil] at this; omega
      rw [ht, rowsH, if_neg hne, openS_wrap _ _ hb1, if_pos rfl]
      simp only [Int.toNat_natCast, List.drop_left]
      rw [h3, endS_cons, List.take_succ_cons]
      congr 2
      by_cases he : endS bs j = k - (wrapS b).length
      · rw [if_pos he, if_pos (by omega)]
      · rw [if_neg he, if_neg (by omega)]
    · have ht : (framesS (b :: bs)).take k = (wrapS b).take k := by rw [framesS_cons, List.take_append_of_le_length (by omega)]
      refine ⟨0, Nat.zero_le _, by rw [endS_zero]; omega, fun _ => by rw [endS_cons, endS_zero]; omega, ?_⟩
      rw [ht, endS_zero]
      by_cases hk0 : k = 0
      · subst hk0; simp [rowsH]
      · have hne : ¬ (wrapS b).take k = [] := by
          intro h; have := congrArg List.length h; rw [List.length_take, List.length_nil] at this; omega
        rw [rowsH, if_neg hne, openS_torn b hb1 k (by omega) (by omega), if_neg (by decide), if_neg (by omega)]
        simp

theorem rowsS_torn (bs : List (List UInt8)) (hb : ∀ b ∈ bs, b.length ≤ 1048576) (k : Nat) (hk : k ≤ (framesS bs).length) :
    ∃ j, j ≤ bs.length ∧ endS bs j ≤ k ∧ (j < bs.length → k < endS bs (j + 1)) ∧ rowsS ((framesS bs).take k) = (bs.take j, endS bs j, if endS bs j = k then 0 else 10) := by
  have := rowsH_torn bs hb k (k + 1) hk (by omega)
  rwa [rowsS_H, List.length_take, Nat.min_eq_left hk]
end Go.Proofs.YtioeimkaljmffaaGreatDoor
end

section
namespace Go.Proofs.YtioeimkaljmffaaGreatDoor
open Go.RowKit Go Go.Sort
set_option linter.unusedVariables false

theorem less_app : ∀ {a b : List UInt8} (x y : List UInt8), a.length = b.length → Op.bytesLess (a ++ x) (b ++ y) = (Op.bytesLess a b || (decide (a = b) && Op.bytesLess x y))
  | [], [], x, y, _ => by rw [less_irr]; simp
  | [], _ :: _, _, _, h => by simp at h
  | _ :: _, [], _, _, h => by simp at h
  | a :: r, b :: s, x, y, h => by
    have ih := less_app (a := r) (b := s) x y (by simpa using h)
    simp only [List.cons_append, Op.bytesLess]
    rw [ih]
    by_cases h1 : a < b
    · have hne : ¬ a = b := fun e => by subst e; have := UInt8.lt_iff_toNat_lt.1 h1; omega
      have hne2 : ¬ a :: r = b :: s := fun e => hne (by injection e)
      rw [decide_eq_false hne2]
      simp [h1]
    · by_cases h2 : b < a
      · have hne : ¬ a = b := fun e => by subst e; exact h1 h2
        have hne2 : ¬ a :: r = b :: s := fun e => hne (by injection e)
        have hne3 : (a == b) = false := by simpa using hne
        rw [decide_eq_false hne2]
        simp [h1, hne3]
      · have e : a = b := by
          have h3 : ¬ a.toNat < b.toNat := fun h => h1 (UInt8.lt_iff_toNat_lt.2 h)
          have h4 : ¬ b.toNat < a.toNat := fun h => h2 (UInt8.lt_iff_toNat_lt.2 h)
          exact UInt8.toNat_inj.1 (by omega)
        subst e
        simp [h1]
theorem digit_less {p q : Nat} (h : p < q) (hq : q < 10) : Op.bytesLess [UInt8.ofNat (48 + p)] [UInt8.ofNat (48 + q)] = true := by
  have e1 : (UInt8.ofNat (48 + p)).toNat = 48 + p := by simp; omega
  have e2 : (UInt8.ofNat (48 + q)).toNat = 48 + q := by simp; omega
  obtain ⟨x, hx⟩ : ∃ x, UInt8.ofNat (48 + p) = x := ⟨_, rfl⟩
  obtain ⟨y, hy⟩ : ∃ y, UInt8.ofNat (48 + q) = y := ⟨_, rfl⟩
  rw [hx] at e1 ⊢
  rw [hy] at e2 ⊢
  have : x < y := UInt8.lt_iff_toNat_lt.2 (by rw [e1, e2]; omega)
  simp [Op.bytesLess, this]
theorem padD_less : ∀ (k a b : Nat), a < b → b < 10 ^ k → Op.bytesLess (padD k a) (padD k b) = true
  | 0, a, b, h1, h2 => by simp at h2; omega
  | k + 1, a, b, h1, h2 => by
    show Op.bytesLess (padD k (a / 10) ++ _) (padD k (b / 10) ++ _) = true
    rw [less_app _ _ (by rw [padD_len, padD_len])]
    by_cases h : a / 10 < b / 10
    · rw [padD_less k _ _ h (by rw [Nat.pow_succ] at h2; omega), Bool.true_or]
    · have e : a / 10 = b / 10 := by omega
      rw [e, digit_less (p := a % 10) (q := b % 10) (by omega) (by omega)]
      simp
theorem nameW_less {a b : Int} (h1 : 1 ≤ a) (h2 : a < b) (h3 : b ≤ 999999999999) : Op.bytesLess (nameW 119 a) (nameW 119 b) = true := by
  have e1 : nameW 119 a = [119] ++ padD 12 a.toNat := by unfold nameW; rw [if_neg (by omega)]; rfl
  have e2 : nameW 119 b = [119] ++ padD 12 b.toNat := by unfold nameW; rw [if_neg (by omega)]; rfl
  have P12 : (10 : Nat) ^ 12 = 1000000000000 := by decide
  rw [e1, e2, less_app _ _ rfl, padD_less 12 _ _ (by omega) (by omega)]
  simp
theorem nameW_ne {a b : Int} (h1 : 1 ≤ a) (h2 : a < b) (h3 : b ≤ 999999999999) : nameW 119 a ≠ nameW 119 b := less_ne (nameW_less h1 h2 h3)
theorem nameW_good {a : Int} (h1 : 1 ≤ a) (h3 : a ≤ 999999999999) : goodNm (nameW 119 a) = true := by
  have e1 : nameW 119 a = 119 :: padD 12 a.toNat := by unfold nameW; rw [if_neg (by omega)]
  have hl : (nameW 119 a).length = 13 := by rw [e1]; simp [padD_len]
  unfold goodNm
  rw [hl, e1]
  simp only [List.all_cons, Bool.and_eq_true, decide_eq_true_eq]
  refine ⟨by omega, by decide, ?_⟩
  rw [List.all_eq_true]
  intro b hb
  have := nameW_mem (c := 119) 12 _ b hb
  unfold nmB
  have h5 : (48 : UInt8) ≤ b := UInt8.le_iff_toNat_le.2 this.1
  have h6 : b ≤ (57 : UInt8) := UInt8.le_iff_toNat_le.2 this.2
  simp [h5, h6]
theorem nums_names : ∀ {B : List Int}, (∀ b ∈ B, 1 ≤ b ∧ b ≤ 999999999999) → numsF (B.map (nameW 119)) = B
  | [], _ => rfl
  | b :: B, h => by
    obtain ⟨h1, h2⟩ := h b (by simp)
    show (if 0 < readW 119 (nameW 119 b) then [readW 119 (nameW 119 b)] else []) ++ numsF (B.map (nameW 119)) = _
    rw [readW_nameW h1 h2, if_pos (by omega), nums_names (fun x hx => h x (by simp [hx]))]
    rfl

/-- A segment: its first number, its records. -/
abbrev Sg := Int × List (List UInt8)
/-- Its file, all of it sure. -/
def sgF (s : Sg) : Fi := ⟨nameW 119 s.1, framesS s.2, (framesS s.2).length⟩
/-- Segments, the next one's first number behind each. -/
def Chain : List Sg → Int → Prop
  | [], _ => True
  | s :: r, n => 1 ≤ s.1 ∧ s.1 + (s.2.length : Int) = (match r with | [] => n | t :: _ => t.1) ∧ 0 < s.2.length ∧ Chain r n
def recsOf (S : List Sg) : List (List UInt8) := S.flatMap (fun s => s.2)
theorem recsOf_append (S T : List Sg) : recsOf (S ++ T) = recsOf S ++ recsOf T := by simp [recsOf]
/-- Where segments end that begin somewhere. -/
theorem chain_first : ∀ {S : List Sg} {n : Int} {s : Sg} {r}, S = s :: r → Chain S n → n = s.1 + ((recsOf S).length : Int)
  | [], n, s, r, h, _ => by cases h
  | s :: [], n, s', r, h, hc => by
    injection h with h1 h2
    subst h1
    obtain ⟨-, h3, -, -⟩ := hc
    simp only [recsOf, List.flatMap_cons, List.flatMap_nil, List.append_nil]
    exact h3.symm
  | s :: t :: u, n, s', r, h, hc => by
    injection h with h1 h2
    subst h1
    obtain ⟨-, h3, -, h4⟩ := hc
    have := chain_first (s := t) (r := u) rfl h4
    simp only [recsOf, List.flatMap_cons, List.length_append] at this ⊢
    simp only at h3
    omega
theorem chain_le : ∀ {S : List Sg} {n : Int}, Chain S n → ∀ s ∈ S, 1 ≤ s.1 ∧ s.1 < n
  | [], n, _, s, hs => by cases hs
  | s :: r, n, h, x, hx => by
    have h1 := chain_first rfl h
    obtain ⟨h2, h3, h4, h5⟩ := h
    have hl : s.2.length ≤ (recsOf (s :: r)).length := by simp [recsOf]
    rcases List.mem_cons.1 hx with rfl | hx
    · exact ⟨h2, by omega⟩
    · exact chain_le h5 x hx
theorem chain_lt : ∀ {S : List Sg} {n : Int}, Chain S n → S.Pairwise (fun a b => a.1 < b.1)
  | [], n, _ => List.Pairwise.nil
  | s :: [], n, h => List.pairwise_singleton _ _
  | s :: t :: r, n, h => by
    obtain ⟨h2, h3, h4, h5⟩ := h
    have ih := chain_lt h5
    simp only at h3
    refine List.pairwise_cons.2 ⟨fun x hx => ?_, ih⟩
    rcases List.mem_cons.1 hx with rfl | hx
    · omega
    · have := (List.pairwise_cons.1 ih).1 x hx; omega
theorem chain_snoc : ∀ {S : List Sg} {s : Sg} {n : Int}, Chain S s.1 → 1 ≤ s.1 → s.1 + (s.2.length : Int) = n → 0 < s.2.length → Chain (S ++ [s]) n
  | [], s, n, _, h1, h2, h3 => ⟨h1, h2, h3, trivial⟩
  | [a], s, n, h, h1, h2, h3 => by
    obtain ⟨g1, g2, g3, -⟩ := h
    exact ⟨g1, g2, g3, h1, h2, h3, trivial⟩
  | a :: b :: r, s, n, h, h1, h2, h3 => by
    obtain ⟨g1, g2, g3, g4⟩ := h
    exact ⟨g1, g2, g3, chain_snoc g4 h1 h2 h3⟩

/-- The files of a log at work: all but the last one are sure. -/
def filesS (S : List Sg) (b : Int) (rl : List (List UInt8)) (su : Nat) : List Fi := S.map sgF ++ [⟨nameW 119 b, framesS rl, su⟩]
theorem look_last {S : List Sg} {b : Int} {f : Fi} (hc : Chain S b) (hb : b ≤ 999999999999) (hn : f.nm = nameW 119 b) : lookF (S.map sgF ++ [f]) (nameW 119 b) = some f := by
  unfold lookF
  rw [List.find?_append, List.find?_eq_none.2, Option.none_or]
  · simp [hn]
  · intro x hx
    obtain ⟨s, hs, rfl⟩ := List.mem_map.1 hx
    have h := chain_le hc s hs
    have := nameW_ne h.1 h.2 hb
    simpa [sgF] using this
theorem set_last {S : List Sg} {b : Int} {f : Fi} {g : Fi → Fi} (hc : Chain S b) (hb : b ≤ 999999999999) (hn : f.nm = nameW 119 b) : setF (nameW 119 b) g (S.map sgF ++ [f]) = S.map sgF ++ [g f] := by
  unfold setF
  rw [List.map_append]
  congr 1
  · rw [List.map_map]
    refine List.map_congr_left fun s hs => ?_
    have h := chain_le hc s hs
    have := nameW_ne h.1 h.2 hb
    simp only [Function.comp]
    rw [if_neg (by simpa [sgF] using this)]
  · simp [hn]
theorem ins_last : ∀ {F : List Fi} {f : Fi}, (∀ x ∈ F, Op.bytesLess f.nm x.nm = false) → insF f F = F ++ [f]
  | [], f, _ => rfl
  | y :: r, f, h => by
    unfold insF
    rw [if_neg (by rw [h y (by simp)]; decide), ins_last (fun x hx => h x (by simp [hx]))]
    rfl
theorem less_asymm {a b : List UInt8} (h : Op.bytesLess a b = true) : Op.bytesLess b a = false := by
  rw [Bool.eq_false_iff]
  intro h2
  have := less_trans h h2
  rw [less_irr] at this
  cases this
theorem ins_next {S : List Sg} {n : Int} {f : Fi} (hc : Chain S n) (hn : n ≤ 999999999999) (he : f.nm = nameW 119 n) : insF f (S.map sgF) = S.map sgF ++ [f] := by
  apply ins_last
  intro x hx
  obtain ⟨s, hs, rfl⟩ := List.mem_map.1 hx
  have h := chain_le hc s hs
  rw [he]
  exact less_asymm (nameW_less h.1 h.2 hn)
theorem look_none {S : List Sg} {n : Int} (hc : Chain S n) (hn : n ≤ 999999999999) : lookF (S.map sgF) (nameW 119 n) = none := by
  unfold lookF
  rw [List.find?_eq_none]
  intro x hx
  obtain ⟨s, hs, rfl⟩ := List.mem_map.1 hx
  have h := chain_le hc s hs
  have := nameW_ne h.1 h.2 hn
  simpa [sgF] using this
theorem lose_full (keep : Int) (nm b : List UInt8) : Fi.lose keep ⟨nm, b, b.length⟩ = ⟨nm, b, b.length⟩ := by
  have e : loseN keep b.length b.length = b.length := by unfold loseN; omega
  unfold Fi.lose
  simp only [e, List.take_length]
theorem lose_segs (keep : Int) (S : List Sg) : (S.map sgF).map (Fi.lose keep) = S.map sgF := by
  rw [List.map_map]
  exact List.map_congr_left fun s hs => lose_full keep _ _
theorem rows_full (rs : List (List UInt8)) (hb : ∀ b ∈ rs, b.length ≤ 1048576) : rowsS (framesS rs) = (rs, (framesS rs).length, 0) := by
  obtain ⟨j, h1, h2, h3, h4⟩ := rowsS_torn rs hb _ (Nat.le_refl _)
  rw [List.take_length] at h4
  have hj : j = rs.length := by
    by_cases e : j = rs.length
    · exact e
    · have h5 := h3 (by omega)
      have h6 : endS rs (j + 1) ≤ (framesS rs).length := by
        unfold endS
        have e2 : framesS rs = framesS (rs.take (j + 1)) ++ framesS (rs.drop (j + 1)) := by
          unfold framesS
          rw [← List.flatten_append, ← List.map_append, List.take_append_drop]
        rw [e2, List.length_append]
        omega
      omega
  have he : endS rs j = (framesS rs).length := by unfold endS; rw [hj, List.take_length]
  rw [h4, he, if_pos rfl, hj, List.take_length]
end Go.Proofs.YtioeimkaljmffaaGreatDoor
end

section
namespace Go.Proofs.YtioeimkaljmffaaGreatDoor
open Go.RowKit Go Go.Sort
set_option linter.unusedVariables false

structure Wk (st : Ds) (g : Lg) (S : List Sg) (b : Int) (rl : List (List UInt8)) (su : Nat) : Prop where
  files : st.F = filesS S b rl su
  on : st.on = true
  room : st.room = 1048576
  ch : Chain S b
  b1 : 1 ≤ b
  B : g.B = S.map (fun s => s.1) ++ [b]
  nx : g.next = b + (rl.length : Int)
  mx : g.next ≤ 100000000
  sz : g.size = ((framesS rl).length : Int)
  fl : st.fails = 0 ∧ g.fails = 0
  sux : su ≤ (framesS rl).length
  sure : ∃ j, j ≤ rl.length ∧ endS rl j ≤ su ∧ g.sure ≤ b + (j : Int) - 1
  short : ∀ r ∈ recsOf S ++ rl, r.length ≤ 100000
/-- Behind a failure. -/
structure Dd (st : Ds) (all : List (List UInt8)) (sure : Int) : Prop where
  ex : ∃ (S : List Sg) (b : Int) (rl : List (List UInt8)) (k : Nat), st.F = S.map sgF ++ [⟨nameW 119 b, (framesS rl).take k, k⟩] ∧ Chain S b ∧ 1 ≤ b ∧ b ≤ 100000000 ∧ k ≤ (framesS rl).length ∧ (recsOf S ++ rl) <+: all ∧
    (∃ j, j ≤ rl.length ∧ endS rl j ≤ k ∧ sure ≤ b + (j : Int) - 1) ∧ (∀ r ∈ recsOf S ++ rl, r.length ≤ 100000) ∧ b = 1 + ((recsOf S).length : Int)
  off : st.on = false
  fails : st.fails = 1
  plan : st.plan = false
  room : st.room = 1048576
def Fires (st : Ds) : Prop := st.plan = true ∧ st.pn = 0
theorem pn_step {st : Ds} (gd ga : List Fi → List Fi) (h : ¬ Fires st) : st.opd gd ga = (0, { st with F := gd st.F, ops := wr64 (st.ops + 1), pn := if st.plan = true then st.pn - 1 else st.pn }) := by
  unfold Ds.opd; exact if_neg h
theorem pn_fire {st : Ds} (gd ga : List Fi → List Fi) (h : Fires st) : st.opd gd ga = (150, st.lost st.keep (ga st.F)) := by
  unfold Ds.opd; exact if_pos h
theorem wr64_one : wr64 (0 + 1) = 1 := by decide
theorem lose_last {keep : Int} {S : List Sg} {b : Int} {rl : List (List UInt8)} {su : Nat} (h : su ≤ (framesS rl).length) : ∃ k, su ≤ k ∧ k ≤ (framesS rl).length ∧ (filesS S b rl su).map (Fi.lose keep) = S.map sgF ++ [⟨nameW 119 b, (framesS rl).take k, k⟩] := by
  refine ⟨loseN keep (framesS rl).length su, ?_, ?_, ?_⟩
  · unfold loseN; omega
  · unfold loseN; omega
  · unfold filesS
    rw [List.map_append, lose_segs]
    rfl
/-- The power fails while files are as these. -/
theorem dd_lost {st : Ds} {S : List Sg} {b : Int} {rl all : List (List UInt8)} {su : Nat} {sure keep : Int} {F : List Fi} (hF : F = filesS S b rl su) (hc : Chain S b) (h1 : 1 ≤ b) (h2 : b ≤ 100000000) (hs : su ≤ (framesS rl).length) (hp : (recsOf S ++ rl) <+: all)
    (hj : ∃ j, j ≤ rl.length ∧ endS rl j ≤ su ∧ sure ≤ b + (j : Int) - 1) (hr : ∀ r ∈ recsOf S ++ rl, r.length ≤ 100000) (hf : st.fails = 0) (hm : st.room = 1048576) (ho : b = 1 + ((recsOf S).length : Int)) : Dd (st.lost keep F) all sure := by
  obtain ⟨k, k1, k2, k3⟩ := lose_last (keep := keep) (S := S) (b := b) hs
  obtain ⟨j, j1, j2, j3⟩ := hj
  refine ⟨⟨S, b, rl, k, ?_, hc, h1, h2, k2, hp, ⟨j, j1, by omega, j3⟩, hr, ho⟩, rfl, ?_, rfl, hm⟩
  · unfold Ds.lost; rw [hF]; exact k3
  · show wr64 (st.fails + 1) = 1
    rw [hf]; exact wr64_one
section
variable {st : Ds} {g : Lg} {S : List Sg} {b : Int} {rl : List (List UInt8)} {su : Nat}
theorem Wk.last (h : Wk st g S b rl su) : g.lastN = b := by
  unfold Lg.lastN
  rw [h.B]
  simp
theorem Wk.ble (h : Wk st g S b rl su) : b ≤ 100000000 := by have := h.nx; have := h.mx; omega
theorem Wk.sync_is (h : Wk st g S b rl su) : st.sync (nameW 119 b) = st.opd (setF (nameW 119 b) fun f => ⟨f.nm, f.b, f.b.length⟩) id := by
  unfold Ds.sync
  rw [if_neg (by rw [h.on]; decide), h.files]
  unfold filesS
  rw [look_last h.ch (by have := h.ble; omega) rfl]
theorem Wk.synced (h : Wk st g S b rl su) (hf : ¬ Fires st) : (syncL st g).1 = 0 ∧ Wk (syncL st g).2.1 (syncL st g).2.2 S b rl (framesS rl).length ∧ (syncL st g).2.2.sure = g.next - 1 ∧ (syncL st g).2.2.most = g.most ∧ (syncL st g).2.2.size = g.size ∧ (syncL st g).2.2.next = g.next ∧
    (syncL st g).2.1.plan = st.plan ∧ (st.plan = true → (syncL st g).2.1.pn = st.pn - 1) := by
  have e : st.sync (nameW 119 g.lastN) = (0, { st with F := filesS S b rl (framesS rl).length, ops := wr64 (st.ops + 1), pn := if st.plan = true then st.pn - 1 else st.pn }) := by
    rw [h.last, h.sync_is, pn_step _ _ hf, h.files]
    unfold filesS
    rw [set_last h.ch (by have := h.ble; omega) rfl]
  unfold syncL
  rw [e, if_pos rfl]
  refine ⟨rfl, ⟨rfl, h.on, h.room, h.ch, h.b1, h.B, h.nx, h.mx, h.sz, h.fl, Nat.le_refl _, ⟨rl.length, Nat.le_refl _, ?_, ?_⟩, h.short⟩, rfl, rfl, rfl, rfl, rfl, fun hp => if_pos hp⟩
  · unfold endS; rw [List.take_length]; exact Nat.le_refl _
  · have := h.nx; simp only; omega
theorem Wk.sync_dead (h : Wk st g S b rl su) (hf : Fires st) (all : List (List UInt8)) (hp : (recsOf S ++ rl) <+: all) (ho : b = 1 + ((recsOf S).length : Int)) : (syncL st g).1 = 150 ∧ Dd (syncL st g).2.1 all g.sure ∧ (syncL st g).2.2 = g := by
  have e : st.sync (nameW 119 g.lastN) = (150, st.lost st.keep st.F) := by rw [h.last, h.sync_is, pn_fire _ _ hf]; rfl
  unfold syncL
  rw [e, if_neg (by show ¬ (150 : Int) = 0; decide)]
  exact ⟨rfl, dd_lost h.files h.ch h.b1 h.ble h.sux hp h.sure h.short h.fl.1 h.room ho, rfl⟩
theorem filesS_len (S : List Sg) (b : Int) (rl : List (List UInt8)) (su : Nat) : (filesS S b rl su).length = S.length + 1 := by simp [filesS]
theorem filesS_all (S : List Sg) (b : Int) (rl : List (List UInt8)) : filesS S b rl (framesS rl).length = (S ++ [(b, rl)]).map sgF := by
  unfold filesS sgF
  rw [List.map_append]
  rfl
/-- A segment is begun. -/
theorem Wk.begun (h : Wk st g S b rl (framesS rl).length) (hr : 0 < rl.length) (hf : ¬ Fires st) (hl : S.length + 1 < 64) : (beginL st g).1 = 0 ∧ Wk (beginL st g).2.1 (beginL st g).2.2 (S ++ [(b, rl)]) g.next [] 0 ∧ (beginL st g).2.2.most = g.most ∧ (beginL st g).2.2.next = g.next ∧ (beginL st g).2.2.sure = g.sure ∧
    (beginL st g).2.1.plan = st.plan ∧ (st.plan = true → (beginL st g).2.1.pn = st.pn - 1) := by
  have hc : Chain (S ++ [(b, rl)]) g.next := chain_snoc h.ch h.b1 h.nx.symm hr
  have hm := h.mx
  have hb1 := h.b1
  have hnx := h.nx
  have e : st.make (nameW 119 g.next) = (0, { st with F := filesS (S ++ [(b, rl)]) g.next [] 0, ops := wr64 (st.ops + 1), pn := if st.plan = true then st.pn - 1 else st.pn }) := by
    unfold Ds.make
    rw [if_neg (by rw [h.on]; decide), if_neg (by rw [nameW_good (by omega) (by omega)]; decide), h.files, filesS_all, if_neg (by rw [look_none hc (by omega)]; decide), if_neg (by simp; omega), pn_step _ _ hf, h.files, filesS_all, ins_next hc (by omega) rfl]
    rfl
  unfold beginL
  rw [e, if_pos rfl]
  refine ⟨rfl, ⟨rfl, h.on, h.room, hc, by omega, ?_, by simp, hm, by simp [framesS], h.fl, Nat.zero_le _, ⟨0, Nat.le_refl _, by rw [endS_zero]; exact Nat.le_refl _, ?_⟩, ?_⟩, rfl, rfl, rfl, rfl, fun hp => if_pos hp⟩
  · simp only [List.map_append, List.map_cons, List.map_nil]; rw [h.B]
  · obtain ⟨j, j1, -, j3⟩ := h.sure
    simp only
    omega
  · intro r hr2
    rw [recsOf_append] at hr2
    exact h.short r (by simpa [recsOf] using hr2)
theorem Wk.begin_dead (h : Wk st g S b rl (framesS rl).length) (hr : 0 < rl.length) (hf : Fires st) (hl : S.length + 1 < 64) (all : List (List UInt8)) (hp : (recsOf S ++ rl) <+: all) (ho : b = 1 + ((recsOf S).length : Int)) : (beginL st g).1 = 150 ∧ Dd (beginL st g).2.1 all g.sure ∧ (beginL st g).2.2 = g := by
  have hc : Chain (S ++ [(b, rl)]) g.next := chain_snoc h.ch h.b1 h.nx.symm hr
  have hm := h.mx
  have hb1 := h.b1
  have hnx := h.nx
  have e : st.make (nameW 119 g.next) = (150, st.lost st.keep st.F) := by
    unfold Ds.make
    rw [if_neg (by rw [h.on]; decide), if_neg (by rw [nameW_good (by omega) (by omega)]; decide), h.files, filesS_all, if_neg (by rw [look_none hc (by omega)]; decide), if_neg (by simp; omega), pn_fire _ _ hf, h.files, filesS_all]
    rfl
  unfold beginL
  rw [e, if_neg (by show ¬ (150 : Int) = 0; decide)]
  exact ⟨rfl, dd_lost h.files h.ch h.b1 h.ble h.sux hp h.sure h.short h.fl.1 h.room ho, rfl⟩
theorem used_files (S : List Sg) (b : Int) (rl : List (List UInt8)) (su : Nat) : usedF (filesS S b rl su) = (framesS (recsOf S ++ rl)).length := by
  have key : ∀ T : List Sg, usedF (T.map sgF) = (framesS (recsOf T)).length := by
    intro T
    induction T with
    | nil => rfl
    | cons s r ih =>
      have e : framesS (recsOf (s :: r)) = framesS s.2 ++ framesS (recsOf r) := by simp [recsOf, framesS]
      rw [e, List.length_append, ← ih]
      rfl
  have e2 : framesS (recsOf S ++ rl) = framesS (recsOf S) ++ framesS rl := by simp [framesS]
  rw [e2, List.length_append, ← key]
  unfold filesS usedF
  rw [List.map_append, List.sum_append]
  simp
/-- A record is put behind the last one. -/
theorem Wk.append_is (h : Wk st g S b rl su) {l : List UInt8} (hs : (framesS (recsOf S ++ rl)).length + (wrapS l).length ≤ 1000000) : st.append (nameW 119 b) (wrapS l) = st.opd (setF (nameW 119 b) fun f => ⟨f.nm, f.b ++ wrapS l, f.su⟩) (setF (nameW 119 b) fun f => ⟨f.nm, f.b ++ wrapS l, f.su⟩) := by
  have e2 : framesS (recsOf S ++ rl) = framesS (recsOf S) ++ framesS rl := by simp [framesS]
  have e3 : (framesS rl).length ≤ (framesS (recsOf S ++ rl)).length := by rw [e2, List.length_append]; omega
  unfold Ds.append
  rw [if_neg (by rw [h.on]; decide), h.files]
  have hlk := look_last (S := S) (b := b) (f := ⟨nameW 119 b, framesS rl, su⟩) h.ch (by have := h.ble; omega) rfl
  rw [show filesS S b rl su = S.map sgF ++ [⟨nameW 119 b, framesS rl, su⟩] from rfl, hlk]
  simp only
  rw [if_neg (by omega), if_neg]
  rw [h.room, show S.map sgF ++ [⟨nameW 119 b, framesS rl, su⟩] = filesS S b rl su from rfl, used_files]
  omega
theorem set_app (hc : Chain S b) (hb : b ≤ 100000000) (l : List UInt8) : setF (nameW 119 b) (fun f => ⟨f.nm, f.b ++ wrapS l, f.su⟩) (filesS S b rl su) = filesS S b (rl ++ [l]) su := by
  unfold filesS
  rw [set_last hc (by omega) rfl, framesS_snoc]
theorem Wk.put (h : Wk st g S b rl su) {l : List UInt8} (hs : (framesS (recsOf S ++ rl)).length + (wrapS l).length ≤ 1000000) (hl : l.length ≤ 100000) (hn : g.next + 1 ≤ 100000000) (hf : ¬ Fires st) : (putL st g (wrapS l)).1 = 0 ∧ Wk (putL st g (wrapS l)).2.1 (putL st g (wrapS l)).2.2 S b (rl ++ [l]) su ∧ (putL st g (wrapS l)).2.2.next = g.next + 1 ∧ (putL st g (wrapS l)).2.2.most = g.most ∧
    (putL st g (wrapS l)).2.1.plan = st.plan ∧ (st.plan = true → (putL st g (wrapS l)).2.1.pn = st.pn - 1) := by
  have e : st.append (nameW 119 g.lastN) (wrapS l) = (0, { st with F := filesS S b (rl ++ [l]) su, ops := wr64 (st.ops + 1), pn := if st.plan = true then st.pn - 1 else st.pn }) := by
    rw [h.last, h.append_is hs, pn_step _ _ hf, h.files, set_app h.ch h.ble]
  have hnx := h.nx
  have hsz := h.sz
  unfold putL
  rw [e, if_pos rfl]
  refine ⟨rfl, ⟨rfl, h.on, h.room, h.ch, h.b1, h.B, ?_, hn, ?_, h.fl, ?_, ?_, ?_⟩, rfl, rfl, rfl, fun hp => if_pos hp⟩
  · simp; omega
  · simp only; rw [framesS_snoc, List.length_append, hsz]; omega
  · rw [framesS_snoc, List.length_append]; have := h.sux; omega
  · obtain ⟨j, j1, j2, j3⟩ := h.sure
    refine ⟨j, by simp; omega, ?_, j3⟩
    unfold endS at j2 ⊢
    rw [List.take_append_of_le_length j1]
    exact j2
  · intro r hr
    rw [← List.append_assoc] at hr
    rcases List.mem_append.1 hr with hr | hr
    · exact h.short r hr
    · rw [List.mem_singleton] at hr; subst hr; exact hl
theorem Wk.put_dead (h : Wk st g S b rl su) {l : List UInt8} (hs : (framesS (recsOf S ++ rl)).length + (wrapS l).length ≤ 1000000) (hl : l.length ≤ 100000) (hf : Fires st) (ho : b = 1 + ((recsOf S).length : Int)) : (putL st g (wrapS l)).1 = 150 ∧ Dd (putL st g (wrapS l)).2.1 (recsOf S ++ rl ++ [l]) g.sure ∧ (putL st g (wrapS l)).2.2 = g := by
  have e : st.append (nameW 119 g.lastN) (wrapS l) = (150, st.lost st.keep (filesS S b (rl ++ [l]) su)) := by
    rw [h.last, h.append_is hs, pn_fire _ _ hf, h.files, set_app h.ch h.ble]
  unfold putL
  rw [e, if_neg (by show ¬ (150 : Int) = 0; decide)]
  refine ⟨rfl, dd_lost rfl h.ch h.b1 h.ble ?_ ?_ ?_ ?_ h.fl.1 h.room ho, rfl⟩
  · rw [framesS_snoc, List.length_append]; have := h.sux; omega
  · rw [List.append_assoc]; exact List.prefix_refl _
  · obtain ⟨j, j1, j2, j3⟩ := h.sure
    refine ⟨j, by simp; omega, ?_, j3⟩
    unfold endS at j2 ⊢
    rw [List.take_append_of_le_length j1]
    exact j2
  · intro r hr
    rw [← List.append_assoc] at hr
    rcases List.mem_append.1 hr with hr | hr
    · exact h.short r hr
    · rw [List.mem_singleton] at hr; subst hr; exact hl
end
end Go.Proofs.YtioeimkaljmffaaGreatDoor
end

section
namespace Go.Proofs.YtioeimkaljmffaaGreatDoor
open Go.RowKit Go Go.Sort
set_option linter.unusedVariables false

section
variable {st : Ds} {g : Lg} {S : List Sg} {b : Int} {rl : List (List UInt8)} {su : Nat}
/-- What an append leaves that goes well. -/
structure Apd (st : Ds) (g : Lg) (S : List Sg) (b : Int) (rl : List (List UInt8)) (l : List UInt8) (u : (Int × Int) × Ds × Lg) : Prop where
  ok : u.1 = (g.next, 0)
  most : u.2.2.most = g.most
  next : u.2.2.next = g.next + 1
  plan : u.2.1.plan = st.plan
  ex : ∃ (S' : List Sg) (b' : Int) (rl' : List (List UInt8)) (su' : Nat), Wk u.2.1 u.2.2 S' b' rl' su' ∧ recsOf S' ++ rl' = recsOf S ++ rl ++ [l] ∧
    ((S' = S ∧ b' = b ∧ rl' = rl ++ [l] ∧ ¬ (0 < rl.length ∧ g.most < g.size + ((wrapS l).length : Int)) ∧ (st.plan = true → u.2.1.pn = st.pn - 1)) ∨
     (S' = S ++ [(b, rl)] ∧ rl' = [l] ∧ 0 < rl.length ∧ g.most < g.size + ((wrapS l).length : Int) ∧ (st.plan = true → u.2.1.pn = st.pn - 3)))
theorem Wk.full (h : Wk st g S b rl su) : recsOf (S ++ [(b, rl)]) ++ [] = recsOf S ++ rl := by
  rw [recsOf_append]; simp [recsOf]
theorem Wk.app (h : Wk st g S b rl su) {l : List UInt8} (hs : (framesS (recsOf S ++ rl)).length + (wrapS l).length ≤ 1000000) (hl : l.length ≤ 100000) (hn : g.next + 1 ≤ 100000000) (hseg : 0 < rl.length → g.most < g.size + ((wrapS l).length : Int) → S.length + 1 < 64) (ho : b = 1 + ((recsOf S).length : Int)) :
    Apd st g S b rl l (appL st g l) ∨ (st.plan = true ∧ (appL st g l).1 = (0, 150) ∧ Dd (appL st g l).2.1 (recsOf S ++ rl ++ [l]) (appL st g l).2.2.sure ∧ (appL st g l).2.2.fails = 0) := by
  have hnx := h.nx
  have hb1 := h.b1
  have hpre : (recsOf S ++ rl) <+: (recsOf S ++ rl ++ [l]) := List.prefix_append _ _
  unfold appL
  rw [if_neg (by rw [h.fl.1, h.fl.2]; simp), if_neg (by omega)]
  by_cases ht : g.lastN < g.next ∧ g.most < g.size + ((wrapS l).length : Int)
  · have hr : 0 < rl.length := by rw [h.last] at ht; omega
    have hsg := hseg hr ht.2
    have ea : appT st g (wrapS l).length = turnL st g := if_pos ht
    rw [ea]
    by_cases hf1 : Fires st
    · obtain ⟨e1, e2, e3⟩ := h.sync_dead hf1 _ hpre ho
      have et : turnL st g = syncL st g := if_neg (by rw [e1]; decide)
      refine .inr ⟨hf1.1, ?_⟩
      rw [et, if_pos (by rw [e1]; decide), e1]
      exact ⟨rfl, by rw [e3]; exact e2, by rw [e3]; exact h.fl.2⟩
    · obtain ⟨e1, w1, e2, e3, e4, e5, e6, e7⟩ := h.synced hf1
      have et : turnL st g = beginL (syncL st g).2.1 (syncL st g).2.2 := if_pos e1
      rw [et]
      generalize syncL st g = p at *
      obtain ⟨r1, st1, g1⟩ := p
      simp only at e1 w1 e2 e3 e4 e5 e6 e7 ⊢
      by_cases hf2 : Fires st1
      · obtain ⟨b1', b2, b3⟩ := w1.begin_dead hr hf2 hsg _ hpre ho
        refine .inr ⟨by rw [← e6]; exact hf2.1, ?_⟩
        rw [if_pos (by rw [b1']; decide), b1']
        exact ⟨rfl, by rw [b3]; exact b2, by rw [b3]; exact w1.fl.2⟩
      · obtain ⟨b1', w2, b2, b3, b4, b5, b6⟩ := w1.begun hr hf2 hsg
        rw [if_neg (by rw [b1']; decide)]
        generalize beginL st1 g1 = q at *
        obtain ⟨r2, st2, g2⟩ := q
        simp only at b1' w2 b2 b3 b4 b5 b6 ⊢
        have hfu := h.full
        have hs2 : (framesS (recsOf (S ++ [(b, rl)]) ++ [])).length + (wrapS l).length ≤ 1000000 := by rw [hfu]; exact hs
        by_cases hf3 : Fires st2
        · obtain ⟨p1, p2, p3⟩ := w2.put_dead hs2 hl hf3 (by rw [recsOf_append]; simp only [recsOf, List.flatMap_cons, List.flatMap_nil, List.append_nil, List.length_append]; simp only [recsOf] at ho; omega)
          refine .inr ⟨by rw [← e6, ← b5]; exact hf3.1, ?_⟩
          unfold putR
          rw [if_neg (by rw [p1]; decide), p1]
          rw [hfu] at p2
          exact ⟨rfl, by rw [p3]; exact p2, by rw [p3]; exact w2.fl.2⟩
        · obtain ⟨p1, w3, p2, p3, p4, p5⟩ := w2.put hs2 hl (by omega) hf3
          unfold putR
          rw [if_pos p1]
          refine .inl ⟨by simp only; rw [p2, b3, e5]; simp, by simp only; rw [p3, b2, e3], by simp only; rw [p2, b3, e5], by simp only; rw [p4, b5, e6], _, _, _, _, w3, ?_, .inr ⟨rfl, rfl, hr, ht.2, fun hp => ?_⟩⟩
          · rw [← List.append_assoc, hfu]
          · have q1 := e7 hp
            have q2 := b6 (by rw [e6]; exact hp)
            have q3 := p5 (by rw [b5, e6]; exact hp)
            simp only
            omega
  · have ea : appT st g (wrapS l).length = (0, st, g) := if_neg ht
    rw [ea, if_neg (by simp)]
    simp only
    by_cases hf3 : Fires st
    · obtain ⟨p1, p2, p3⟩ := h.put_dead hs hl hf3 ho
      refine .inr ⟨hf3.1, ?_⟩
      unfold putR
      rw [if_neg (by rw [p1]; decide), p1]
      exact ⟨rfl, by rw [p3]; exact p2, by rw [p3]; exact h.fl.2⟩
    · obtain ⟨p1, w3, p2, p3, p4, p5⟩ := h.put hs hl hn hf3
      unfold putR
      rw [if_pos p1]
      refine .inl ⟨by simp only; rw [p2]; simp, p3, p2, p4, _, _, _, _, w3, by rw [List.append_assoc], .inl ⟨rfl, rfl, rfl, fun hh => ht ⟨?_, hh.2⟩, p5⟩⟩
      rw [h.last]; omega
end
theorem look_mem : ∀ {F : List Fi} {f : Fi}, F.Pairwise (fun a b => a.nm ≠ b.nm) → f ∈ F → lookF F f.nm = some f
  | [], f, _, h => by cases h
  | y :: r, f, hp, h => by
    unfold lookF
    rw [List.find?_cons]
    rcases List.mem_cons.1 h with e | h
    · subst e; simp
    · have hne := (List.pairwise_cons.1 hp).1 f h
      have : (y.nm == f.nm) = false := by simpa using hne
      rw [this]
      exact look_mem (List.pairwise_cons.1 hp).2 h
/-- The files' names are unlike one another. -/
theorem names_ne {S : List Sg} {b : Int} {f : Fi} (hc : Chain S b) (hb : b ≤ 999999999999) (hn : f.nm = nameW 119 b) : (S.map sgF ++ [f]).Pairwise (fun a b => a.nm ≠ b.nm) := by
  refine List.pairwise_append.2 ⟨List.pairwise_map.2 ?_, List.pairwise_singleton _ _, fun x hx y hy => ?_⟩
  · refine (List.Pairwise.and_mem.1 (chain_lt hc)).imp fun {s t} h => ?_
    have h1 := chain_le hc s h.1
    have h2 := chain_le hc t h.2.1
    exact nameW_ne h1.1 h.2.2 (by omega)
  · obtain ⟨s, hs, rfl⟩ := List.mem_map.1 hx
    rw [List.mem_singleton] at hy
    subst hy
    have h1 := chain_le hc s hs
    rw [hn]
    exact nameW_ne h1.1 h1.2 hb
/-- What the segments tell. -/
theorem readF_chain {st : Ds} {b : Int} {lb : List UInt8} {bs : List (List UInt8)} {n : Nat} {er : Int} (hl : st.read (nameW 119 b) = (some lb, 0)) (hr : rowsS lb = (bs, n, er)) : ∀ (S : List Sg) (acc : List (List UInt8)) (g : Lg), Chain S b → (∀ s ∈ S, st.read (nameW 119 s.1) = (some (framesS s.2), 0)) → (∀ s ∈ S, ∀ r ∈ s.2, r.length ≤ 1048576) →
    readF st (S.map (fun s => s.1) ++ [b]) acc g = ((acc ++ recsOf S ++ bs, (if er = 0 then false else true), 0), { g with size := (n : Int), next := b + (bs.length : Int) })
  | [], acc, g, _, _, _ => by
    have := readF_last (st := st) (b := b) (acc := acc) (g := g) (by rw [hl]) (by rw [hl]; rfl) hr
    simpa [recsOf] using this
  | [s], acc, g, hc, hS, hsh => by
    obtain ⟨c1, c2, c3, -⟩ := hc
    have h1 := readF_go (st := st) (b := s.1) (b2 := b) (r := []) (acc := acc) (g := g) (by rw [hS s (by simp)]) (by rw [hS s (by simp)]; rfl) (rows_full s.2 (hsh s (by simp))) c2
    have h2 := readF_last (st := st) (b := b) (acc := acc ++ s.2) (g := { g with size := ((framesS s.2).length : Int), next := s.1 + (s.2.length : Int) }) (by rw [hl]) (by rw [hl]; rfl) hr
    show readF st [s.1, b] acc g = _
    rw [h1, h2]
    simp [recsOf]
  | s :: t :: r, acc, g, hc, hS, hsh => by
    obtain ⟨c1, c2, c3, c4⟩ := hc
    have h1 := readF_go (st := st) (b := s.1) (b2 := t.1) (r := r.map (fun s => s.1) ++ [b]) (acc := acc) (g := g) (by rw [hS s (by simp)]) (by rw [hS s (by simp)]; rfl) (rows_full s.2 (hsh s (by simp))) c2
    have h2 := readF_chain hl hr (t :: r) (acc ++ s.2) { g with size := ((framesS s.2).length : Int), next := s.1 + (s.2.length : Int) } c4 (fun x hx => hS x (by simp [hx])) (fun x hx => hsh x (by simp [hx]))
    show readF st (s.1 :: t.1 :: (r.map (fun s => s.1) ++ [b])) acc g = _
    rw [h1]
    refine h2.trans ?_
    simp [recsOf]
/-- Files that a log may be opened of. -/
structure Fz (st : Ds) (S : List Sg) (b : Int) (lb : List UInt8) (su : Nat) : Prop where
  files : st.F = S.map sgF ++ [⟨nameW 119 b, lb, su⟩]
  on : st.on = true
  plan : st.plan = false
  ch : Chain S b
  b1 : 1 ≤ b
  b2 : b ≤ 100000000
  short : ∀ s ∈ S, ∀ r ∈ s.2, r.length ≤ 1048576
theorem Fz.read {st : Ds} {S : List Sg} {b : Int} {lb : List UInt8} {su : Nat} (h : Fz st S b lb su) {f : Fi} (hf : f ∈ st.F) : st.read f.nm = (some f.b, 0) := by
  have hb := h.b2
  unfold Ds.read
  rw [if_neg (by rw [h.on]; decide), look_mem (by rw [h.files]; exact names_ne h.ch (by omega) rfl) hf]
theorem nameW_nil {b : Int} (h1 : 1 ≤ b) (h2 : b ≤ 999999999999) : ¬ nameW 119 b = [] := by
  unfold nameW
  rw [if_neg (by omega)]
  simp
/-- Opening: what is told, and what is left. -/
structure Opd (st : Ds) (S : List Sg) (b : Int) (lb : List UInt8) (bs : List (List UInt8)) (n : Nat) (size : Int) (u : Int × Ds × Lg × List (List UInt8)) : Prop where
  ok : u.1 = 0
  recs : u.2.2.2 = recsOf S ++ bs
  files : u.2.1.F = S.map sgF ++ [⟨nameW 119 b, lb.take n, n⟩]
  on : u.2.1.on = true
  plan : u.2.1.plan = false
  room : u.2.1.room = st.room
  fails : u.2.1.fails = st.fails ∧ u.2.2.1.fails = st.fails
  B : u.2.2.1.B = S.map (fun s => s.1) ++ [b]
  next : u.2.2.1.next = b + (bs.length : Int)
  sure : u.2.2.1.sure = b + (bs.length : Int) - 1
  sz : u.2.2.1.size = (n : Int)
  most : u.2.2.1.most = size
theorem Fz.open {st : Ds} {S : List Sg} {b : Int} {lb : List UInt8} {su : Nat} (h : Fz st S b lb su) {bs : List (List UInt8)} {n : Nat} {er : Int} (hr : rowsS lb = (bs, n, er)) (hn : n ≤ lb.length) (he : er = 0 → n = lb.length) {size : Int} (h1 : 1 ≤ size) (h2 : size ≤ 1048576) : Opd st S b lb bs n size (openL st size) := by
  have hb1 := h.b1
  have hb2 := h.b2
  have hpw := names_ne (f := ⟨nameW 119 b, lb, su⟩) h.ch (by omega) rfl
  have hrd : (st.read []).2 = 152 := by
    unfold Ds.read
    rw [if_neg (by rw [h.on]; decide)]
    have : lookF st.F [] = none := by
      unfold lookF
      rw [List.find?_eq_none]
      intro x hx
      rw [h.files] at hx
      rcases List.mem_append.1 hx with hx | hx
      · obtain ⟨s, hs, rfl⟩ := List.mem_map.1 hx
        have h3 := chain_le h.ch s hs
        have := nameW_nil h3.1 (by omega)
        simpa [sgF] using this
      · rw [List.mem_singleton] at hx; subst hx
        have := nameW_nil hb1 (by omega)
        simpa using this
    rw [this]
  have hnm : numsF (st.F.map Fi.nm) = S.map (fun s => s.1) ++ [b] := by
    rw [h.files, List.map_append, List.map_map]
    have e : S.map (Fi.nm ∘ sgF) ++ [(⟨nameW 119 b, lb, su⟩ : Fi)].map Fi.nm = (S.map (fun s => s.1) ++ [b]).map (nameW 119) := by
      rw [List.map_append, List.map_map]; rfl
    rw [e]
    refine nums_names fun x hx => ?_
    rcases List.mem_append.1 hx with hx | hx
    · obtain ⟨s, hs, rfl⟩ := List.mem_map.1 hx
      have h3 := chain_le h.ch s hs
      exact ⟨h3.1, by omega⟩
    · rw [List.mem_singleton] at hx; subst hx; exact ⟨hb1, by omega⟩
  have hl : st.read (nameW 119 b) = (some lb, 0) := h.read (f := ⟨nameW 119 b, lb, su⟩) (by rw [h.files]; simp)
  have hS : ∀ s ∈ S, st.read (nameW 119 s.1) = (some (framesS s.2), 0) := fun s hs => h.read (f := sgF s) (by rw [h.files]; exact List.mem_append.2 (.inl (List.mem_map.2 ⟨s, hs, rfl⟩)))
  have hrf := readF_chain hl hr S [] (lg0 st (S.map (fun s => s.1) ++ [b]) size) h.ch hS h.short
  have hlast : ∀ g : Lg, g.B = S.map (fun s => s.1) ++ [b] → g.lastN = b := fun g hg => by unfold Lg.lastN; rw [hg]; simp
  have hnf : ¬ Fires st := fun hf => by have := hf.1; rw [h.plan] at this; cases this
  -- settling
  have hset : ∃ st2 g2, settleL st (readF st (S.map (fun s => s.1) ++ [b]) [] (lg0 st (S.map (fun s => s.1) ++ [b]) size)).2 (readF st (S.map (fun s => s.1) ++ [b]) [] (lg0 st (S.map (fun s => s.1) ++ [b]) size)).1.2.1 = (0, st2, g2) ∧
      st2.F = S.map sgF ++ [⟨nameW 119 b, lb.take n, n⟩] ∧ st2.on = true ∧ st2.plan = false ∧ st2.room = st.room ∧ st2.fails = st.fails ∧ g2.fails = st.fails ∧ g2.B = S.map (fun s => s.1) ++ [b] ∧ g2.next = b + (bs.length : Int) ∧ g2.sure = b + (bs.length : Int) - 1 ∧ g2.size = (n : Int) ∧ g2.most = size := by
    rw [hrf]
    unfold settleL
    rw [if_neg (by simp [lg0])]
    have hlk := fun (f : Fi) (hf : f.nm = nameW 119 b) => look_last (S := S) (b := b) (f := f) h.ch (by omega) hf
    have hst := fun (f : Fi) (gg : Fi → Fi) (hf : f.nm = nameW 119 b) => set_last (S := S) (b := b) (f := f) (g := gg) h.ch (by omega) hf
    by_cases e0 : er = 0
    · have hn2 := he e0
      rw [if_pos e0, if_neg (by show ¬ (false = true); decide)]
      unfold syncL
      have es : st.sync (nameW 119 b) = (0, { st with F := S.map sgF ++ [⟨nameW 119 b, lb.take n, n⟩], ops := wr64 (st.ops + 1), pn := if st.plan = true then st.pn - 1 else st.pn }) := by
        unfold Ds.sync
        rw [if_neg (by rw [h.on]; decide), h.files, hlk _ rfl]
        simp only
        rw [pn_step _ _ hnf, h.files, hst _ _ rfl, hn2, List.take_length]
      rw [hlast _ rfl, es, if_pos rfl]
      exact ⟨_, _, rfl, rfl, h.on, h.plan, rfl, rfl, rfl, rfl, rfl, rfl, rfl, rfl⟩
    · rw [if_neg e0, if_pos rfl, hlast _ rfl]
      have ec : st.cut (nameW 119 b) (n : Int) = (0, { st with F := S.map sgF ++ [⟨nameW 119 b, lb.take n, min su n⟩], ops := wr64 (st.ops + 1), pn := if st.plan = true then st.pn - 1 else st.pn }) := by
        unfold Ds.cut
        rw [if_neg (by rw [h.on]; decide), h.files, hlk _ rfl]
        simp only
        rw [if_neg (by omega), pn_step _ _ hnf, h.files, hst _ _ rfl]
        simp
      rw [ec, if_pos rfl]
      simp only
      unfold syncL
      rw [hlast _ rfl]
      have es : ∀ st3 : Ds, st3.F = S.map sgF ++ [⟨nameW 119 b, lb.take n, min su n⟩] → st3.on = true → st3.plan = false → st3.sync (nameW 119 b) = (0, { st3 with F := S.map sgF ++ [⟨nameW 119 b, lb.take n, n⟩], ops := wr64 (st3.ops + 1), pn := if st3.plan = true then st3.pn - 1 else st3.pn }) := by
        intro st3 f3 o3 p3
        unfold Ds.sync
        rw [if_neg (by rw [o3]; decide), f3, hlk _ rfl]
        simp only
        rw [pn_step _ _ (fun hf => by have := hf.1; rw [p3] at this; cases this), f3, hst _ _ rfl]
        simp only [List.length_take, Nat.min_eq_left hn]
      rw [es { st with F := S.map sgF ++ [⟨nameW 119 b, lb.take n, min su n⟩], ops := wr64 (st.ops + 1), pn := if st.plan = true then st.pn - 1 else st.pn } rfl h.on h.plan, if_pos rfl]
      exact ⟨_, _, rfl, rfl, h.on, h.plan, rfl, rfl, rfl, rfl, rfl, rfl, rfl, rfl⟩
  obtain ⟨st2, g2, hset, k1, k2, k3, k4, k5, k6, k7, k8, k9, k10, k11⟩ := hset
  have hop : openL st size = (0, st2, g2, recsOf S ++ bs) := by
    unfold openL
    rw [if_neg (by rw [hrd]; simp), if_neg (by omega), hnm, if_neg (by rw [hrf]; simp), hset, hrf]
    simp
  rw [hop]
  exact ⟨rfl, rfl, k1, k2, k3, k4, ⟨k5, k6⟩, k7, k8, k9, k10, k11⟩
end Go.Proofs.YtioeimkaljmffaaGreatDoor
end

section
namespace Go.Proofs.YtioeimkaljmffaaGreatDoor
open Go.RowKit Go
set_option linter.unusedVariables false

/-- A slice of byte slices of the world. -/
structure Rws (w : World) (a : Option Addr) (n cap : Nat) (ls : List (List UInt8)) : Prop where
  len : ls.length = n
  le : n ≤ cap
  max : cap ≤ 9223372036854775807
  adr : cap = 0 ∨ ∃ b off, a = some ⟨b, off, none⟩ ∧ ∀ i, i < n → ∃ ai ni ci, w.cell? ⟨b, off + i, none⟩ = some (.slice ai ni ci) ∧ Bys w ai ni ci (ls.getD i [])
theorem Rws.below {w w' : World} {a : Option Addr} {n cap : Nat} {ls : List (List UInt8)} (h : Rws w a n cap ls) (hb : Below w.heap.size w w') : Rws w' a n cap ls := by
  refine ⟨h.len, h.le, h.max, ?_⟩
  rcases h.adr with h4 | ⟨b, off, rfl, hc⟩
  · exact .inl h4
  · refine .inr ⟨b, off, rfl, fun i hi => ?_⟩
    obtain ⟨ai, ni, ci, h1, h2⟩ := hc i hi
    exact ⟨ai, ni, ci, by rw [hb.cell (World.block_lt_of_cell? w _ h1)]; exact h1, h2.below hb⟩
theorem OwnB.isBys {w : World} {B : Nat} {v : Value} {l : List UInt8} (h : OwnB w B 5 v l) : ∃ a n c, v = .slice a n c ∧ Bys w a n c l := by
  obtain ⟨a, c, hv, hb⟩ := h.bys
  exact ⟨a, _, c, hv, hb⟩
theorem OwnRows.rws {w : World} {B : Nat} {v : Value} {ls : List (List UInt8)} (h : OwnRows w B v ls) : ∃ a cap, v = .slice a ls.length cap ∧ Rws w a ls.length cap ls := by
  obtain ⟨vs, h1, hl, h2⟩ := h
  rw [hl] at h1
  rcases h1.2 with ⟨rfl, hn⟩ | ⟨g, cap, cur, rfl, hb, hg, hnc, hcm, hcs, htake⟩
  · exact ⟨none, 0, by rw [hn], rfl, by omega, by omega, .inl rfl⟩
  · refine ⟨_, cap, rfl, rfl, hnc, by unfold maxLen at hcm; omega, .inr ⟨g, 0, rfl, fun i hi => ?_⟩⟩
    obtain ⟨ai, ni, ci, hv, hbb⟩ := (h2 i hi).isBys
    refine ⟨ai, ni, ci, ?_, hbb⟩
    rw [Nat.zero_add, cell_of_row w g i cur _ (0, 0) hg, ← hv]
    have h3 : (cur.toList.take (ls.length * 1))[i]? = vs[i]? := by rw [htake]
    rw [List.getElem?_take, if_pos (by omega)] at h3
    rw [List.getD_eq_getElem?_getD, ← h3]
    have hlt : i < cur.toList.length := by
      have := congrArg List.length htake
      rw [List.length_take] at this
      omega
    rw [List.getElem?_eq_getElem hlt, Option.getD_some]
    simp at hlt ⊢

theorem take_eq_succ {α : Type} [DecidableEq α] (d : α) (ls ms : List α) (k : Nat) (hl : k < ls.length) (hm : k < ms.length) (h : ls.take k = ms.take k) : (ls.take (k + 1) = ms.take (k + 1)) ↔ ls.getD k d = ms.getD k d := by
  rw [List.take_succ_eq_append_getElem hl, List.take_succ_eq_append_getElem hm, h]
  have e1 : ls.getD k d = ls[k] := by simp [List.getD, hl]
  have e2 : ms.getD k d = ms[k] := by simp [List.getD, hm]
  rw [e1, e2]
  constructor
  · intro h1; exact (List.cons.inj (List.append_cancel_left h1)).1
  · intro h1; rw [h1]
theorem ne_of_getD {α : Type} (d : α) (ls ms : List α) (k : Nat) (h : ¬ ls.getD k d = ms.getD k d) : ¬ ls = ms := by rintro rfl; exact h rfl

set_option maxRecDepth 100000 in
set_option maxHeartbeats 1600000 in
theorem same_c {w : World} {a b : Option Addr} {n cap m cap2 : Nat} {ls ms : List (List UInt8)} (ha : Rws w a n cap ls) (hb : Rws w b m cap2 ms) :
    Calls Tryz.prog 22 #[.slice a n cap, .slice b m cap2] w (BoolPost (decide (ls = ms)) w) := by
  have hle := ha.le
  have hmax := ha.max
  have hle2 := hb.le
  have hmax2 := hb.max
  have hlen := ha.len
  have hlen2 := hb.len
  by_cases hnm : n = m
  · subst hnm
    have HL := Lib.hid hlen
    have HM := Lib.hid hlen2
    clear hlen hlen2
    have hne : ((n : Int) != n) = false := by simp
    go_enter Tryz.func22, Tryz.ntmps22
    go_wp2
    go_loopw [5] (fun i wr => ∃ k : Nat, k ≤ n ∧ i = .int .i64 k ∧ ls.take k = ms.take k ∧ Below w.heap.size w wr) (fun i _ => n - (intOf i).toNat)
    case atStart => exact ⟨0, by omega, rfl, by simp, Below.refl _ _⟩
    case round =>
      obtain ⟨k, hk, rfl, htk, hbel⟩ := hrel
      have HTK := Lib.hid htk
      clear htk
      by_cases hlt : k < n
      · obtain ⟨ba, oa, rfl, hca⟩ : ∃ b off, a = some ⟨b, off, none⟩ ∧ ∀ i, i < n → ∃ ai ni ci, w.cell? ⟨b, off + i, none⟩ = some (.slice ai ni ci) ∧ Bys w ai ni ci (ls.getD i []) := by
          rcases ha.adr with h | h
          · omega
          · exact h
        obtain ⟨bb, ob, rfl, hcb⟩ : ∃ b' off, b = some ⟨b', off, none⟩ ∧ ∀ i, i < n → ∃ ai ni ci, w.cell? ⟨b', off + i, none⟩ = some (.slice ai ni ci) ∧ Bys w ai ni ci (ms.getD i []) := by
          rcases hb.adr with h | h
          · omega
          · exact h
        obtain ⟨ai, ni, ci, h1, h2⟩ := hca k hlt
        obtain ⟨aj, nj, cj, h3, h4⟩ := hcb k hlt
        have c1 : wr.cell? ⟨ba, oa + k, none⟩ = some (.slice ai ni ci) := by rw [hbel.cell (World.block_lt_of_cell? w _ h1)]; exact h1
        have c2 : wr.cell? ⟨bb, ob + k, none⟩ = some (.slice aj nj cj) := by rw [hbel.cell (World.block_lt_of_cell? w _ h3)]; exact h3
        obtain ⟨x, hx⟩ : ∃ x, ls.getD k [] = x := ⟨_, rfl⟩
        obtain ⟨y, hy⟩ : ∃ y, ms.getD k [] = y := ⟨_, rfl⟩
        rw [hx] at h2
        rw [hy] at h4
        have v1 : ∀ N, (convert 34 9 (.slice ai ni ci)).run Tryz.prog (wr.drewN N) = .ok (.string (text x)) (wr.drewN N) := fun N => conv_bys (h2.below (below_drewN hbel N)) Tryz.underlying34 Tryz.underlying5 Tryz.underlying9
        have v2 : ∀ N, (convert 34 9 (.slice aj nj cj)).run Tryz.prog (wr.drewN N) = .ok (.string (text y)) (wr.drewN N) := fun N => conv_bys (h4.below (below_drewN hbel N)) Tryz.underlying34 Tryz.underlying5 Tryz.underlying9
        have hki : (k : Int) < (n : Int) := by omega
        have HX := Lib.hid hx
        have HY := Lib.hid hy
        clear hca hcb h1 h3 hx hy
        have hbn := text_beq x y
        by_cases hxy : x = y
        · have hbf : ((text x).toList == (text y).toList) = true := by rw [hbn]; simp [hxy]
          have HXY := Lib.hid hxy
          clear hxy hbn
          go_wp2
          go_quiet (fail)
          go_wp2
          go_roundw
          case rel => exact ⟨k + 1, by omega, by go_num, (take_eq_succ [] ls ms k (by rw [HL.out]; exact hlt) (by rw [HM.out]; exact hlt) HTK.out).2 (by rw [HX.out, HY.out, HXY.out]), below_drewN hbel nq⟩
          case measure => simp [intOf]; omega
        · have hbf : ((text x).toList == (text y).toList) = false := by rw [hbn]; simp [hxy]
          have HXY := Lib.hid hxy
          clear hxy hbn
          go_wp2
          go_quiet (fail)
          go_wp2
          go_ret
          exact BoolPost.mk (by rw [eq_comm, decide_eq_false_iff_not]; exact ne_of_getD [] ls ms k (by rw [HX.out, HY.out]; exact HXY.out)) (below_drewN hbel nq)
      · obtain rfl : k = n := by omega
        go_wp2
        go_ret
        exact BoolPost.mk (by rw [eq_comm, decide_eq_true_eq]; have := HTK.out; rwa [List.take_of_length_le (by rw [HL.out]; exact Nat.le_refl _), List.take_of_length_le (by rw [HM.out]; exact Nat.le_refl _)] at this) hbel
  · have hne : ((n : Int) != m) = true := by rw [bne_iff_ne]; omega
    have HN := Lib.hid (show ¬ ls = ms by intro h; rw [h, hlen2] at hlen; omega)
    have hnm2 : ¬ (n : Int) = (m : Int) := by omega
    clear hlen hlen2
    go_enter Tryz.func22, Tryz.ntmps22
    go_wp2
    go_ret
    exact BoolPost.mk (by rw [eq_comm, decide_eq_false_iff_not]; exact HN.out) (Below.refl _ _)
end Go.Proofs.YtioeimkaljmffaaGreatDoor
end

section
namespace Go.Proofs.YtioeimkaljmffaaGreatDoor
open Go.RowKit Go Go.Deep Go.ChangeShapes
set_option linter.unusedVariables false

def asBytes (zs : List Int) : List UInt8 := zs.map (fun z => UInt8.ofNat z.toNat)
theorem asBytes_by8 (zs : List Int) (hw : ∀ n ∈ zs, (Lit.int .u8 n).wf = true) (L i : Nat) (hi : i < L) (hl : i < zs.length) : by8 (asBytes (zs.take L)) i = zs.getD i 0 := by
  have hw' := u8_of_wf (hw (zs.getD i 0) (by rw [List.getD_eq_getElem?_getD, List.getElem?_eq_getElem hl]; exact List.getElem_mem hl))
  unfold by8 asBytes
  have hq : zs.getD i 0 = zs[i] := by simp [List.getD, hl]
  rw [hq] at hw' ⊢
  simp [List.getD, hi, hl]
  omega

theorem rws_of_open {H : Type} {enc : TypeId × Value → H} {W : World} {a : Option Addr} {len cap : Nat} {d : DataW H} {p : List MemPlace} (h : DataW.Trod enc Tryz.prog W 0 (fun _ => true) true 39 (.slice a len cap) d p) :
    ∃ bs, Rws W a len cap bs ∧ cap ≤ maxLen ∧ (d = .nil ∨ ∃ (A : Nat → Option Addr) (L : Nat → Nat) (Z : Nat → List Int) (spare : List (DataW H)), d = .slice ((List.range len).map fun r => intRow .u8 (A r) (L r) (Z r)) spare ∧ ∀ r, r < len → L r ≤ (Z r).length ∧ (bs.getD r []).length = L r ∧ (A r = none → L r = 0)) ∧ (d = .nil → len = 0) := by
  obtain ⟨fuel, hf⟩ := h
  rcases open_int_rows Tryz.underlying39 Tryz.underlying34 Tryz.underlying5 (by kernel_rfl) (by kernel_rfl) hf with ⟨hcs, hx⟩ | ⟨x, l, c, A, L, C, Z, hcs, _, hl, hm, hx, hcell⟩
  · simp [Value.cells] at hcs
    obtain ⟨rfl, rfl, rfl⟩ := hcs
    exact ⟨[], ⟨rfl, Nat.le_refl _, by omega, .inl rfl⟩, by omega, .inl (by cases hx; rfl), fun _ => rfl⟩
  · simp [Value.cells] at hcs
    obtain ⟨rfl, rfl, rfl⟩ := hcs
    have hgd : ∀ r, r < len → ((List.range len).map fun r => asBytes ((Z r).take (L r))).getD r [] = asBytes ((Z r).take (L r)) := fun r hr => by simp [List.getD, hr]
    refine ⟨(List.range len).map fun r => asBytes ((Z r).take (L r)), ⟨by simp, hl, by unfold maxLen at hm; omega, ?_⟩, hm, .inr ⟨A, L, Z, _, by cases hx; rfl, fun r hr => ?_⟩, fun h => by cases hx; cases h⟩
    · by_cases hc : cap = 0
      · exact .inl hc
      · right
        obtain ⟨b, off, spot⟩ := x
        have h0 := (hcell 0 (by omega)).1
        have hspot : spot = none := by simpa [Addr.add] using World.cell?_spot h0
        subst hspot
        refine ⟨b, off, rfl, fun i hi => ?_⟩
        obtain ⟨h1, h2, h3, h4, h5, h6, h7⟩ := hcell i (by omega)
        rw [addr_add] at h1
        refine ⟨A i, L i, C i, h1, ?_⟩
        rw [hgd i hi]
        refine ⟨by simp [asBytes]; omega, h2, by unfold maxLen at h3; omega, ?_⟩
        by_cases hc0 : C i = 0
        · exact .inl hc0
        · right
          cases hA : A i with
          | none => exact absurd (h6 hA) hc0
          | some a' =>
            obtain ⟨b', off', spot'⟩ := a'
            have h8 := (h7 _ hA).2
            have hs0 := h8 0 (by omega)
            have hspot : spot' = none := by simpa [Addr.add] using World.cell?_spot hs0
            subst hspot
            refine ⟨b', off', rfl, fun j hj => ?_⟩
            rw [asBytes_by8 (Z i) h5 (L i) j hj (by omega), ← addr_add]
            exact h8 j (by omega)
    · obtain ⟨h1, h2, h3, h4, h5, h6, h7⟩ := hcell r (by omega)
      exact ⟨by omega, by rw [hgd r hr]; simp [asBytes]; omega, fun hA => by have := h6 hA; omega⟩
end Go.Proofs.YtioeimkaljmffaaGreatDoor
end

section
namespace Go.Proofs.YtioeimkaljmffaaGreatDoor
open Go.RowKit Go
set_option linter.unusedVariables false

theorem Leaves.bytes {base : Nat} {W W' : World} (h : Leaves (fun _ => False) base W W') : SameBytes W W' :=
  fun k cs fr hk => h.same k _ hk (fun h => h) (.inr (fun cs' fr' => by simp))
theorem OwnRows.snoc {W w1 : World} {B : Nat} {v v' u : Value} {vs : List Value} {ls : List (List UInt8)} {m : List UInt8} {o : Obj} (hrow : W.ownsRow B 34 1 v vs.length vs) (hl : vs.length = ls.length)
    (hc : ∀ i, i < ls.length → OwnB W B 5 (vs.getD i undef) (ls.getD i [])) (hu : OwnB W B 5 u m) (hgrow : (W.alloc o).grownBy w1 v.ownBlock) (hown' : w1.ownsRow B 34 1 v' (vs.length + 1) (vs ++ [u])) : OwnRows w1 B v' (ls ++ [m]) := by
  have hs : SameBytes W w1 := ((Leaves.alloc W o).trans (Leaves.append (hrow.alloc _) hgrow)).bytes
  refine ⟨vs ++ [u], by rw [List.length_append]; exact hown', by simp [hl], fun i hi => ?_⟩
  rw [List.length_append, List.length_singleton] at hi
  by_cases h : i < ls.length
  · have := (hc i h).keptBytes hs
    rw [List.getD_eq_getElem?_getD, List.getElem?_append_left (by omega), List.getD_eq_getElem?_getD, List.getElem?_append_left h]
    rwa [List.getD_eq_getElem?_getD, List.getD_eq_getElem?_getD] at this
  · obtain rfl : i = ls.length := by omega
    have := hu.keptBytes hs
    rw [List.getD_eq_getElem?_getD, List.getElem?_append_right (by omega), List.getD_eq_getElem?_getD, List.getElem?_append_right (by omega), hl]
    simpa using this

/-- Where the loop stands. -/
def RowsAt (l : List UInt8) (w : World) (v : Value) (k : Nat) (wr : World) : Prop :=
  ∃ ls f, OwnRows wr w.heap.size v ls ∧ k ≤ l.length ∧ ls.length ≤ k ∧ l.length - k < f ∧ rowsS l = rowsF f l k ls ∧ Below w.heap.size w wr
theorem RowsPost.mk {l : List UInt8} {w w' : World} {v : Value} {ls : List (List UInt8)} {k : Nat} {e : Int} (h : rowsS l = (ls, k, e)) (ho : OwnRows w' w.heap.size v ls) (hb : Below w.heap.size w w') : RowsPost l w (.returned (.tuple #[v, .int .i64 (k : Int), .int .i64 e])) w' := by
  unfold RowsPost; rw [h]; exact ⟨v, rfl, ho, hb⟩
theorem OwnRows.nil (w : World) (B : Nat) : OwnRows w B (.slice none 0 0) [] := ⟨[], World.ownsRow_nil _ _ _ _, rfl, fun i hi => by simp at hi⟩
theorem ownsRow_below {W W' : World} {B s k : Nat} {e : TypeId} {v : Value} {xs : List Value} (h : W.ownsRow B e s v k xs) (hb : Below W.heap.size W W') : W'.ownsRow B e s v k xs := by
  refine ⟨h.1, ?_⟩
  rcases h.2 with hn | ⟨g, cap, cur, rfl, hB, hg, rest⟩
  · exact .inl hn
  · exact .inr ⟨g, cap, cur, rfl, hB, by rw [hb.block g (Array.getElem?_eq_some_iff.1 hg).1]; exact hg, rest⟩
set_option maxRecDepth 100000 in
set_option maxHeartbeats 1600000 in
theorem rrows_c {w : World} {a : Option Addr} {n cap : Nat} {l : List UInt8} (hb : Bys w a n cap l) (hn : n ≤ 99999) :
    Calls Tryz.prog 28 #[.slice a n cap] w (RowsPost l w) := by
  obtain ⟨i0, hi, hz0, hz1, hz2⟩ := info_parts Tryz.info34
  have hle := hb.le
  have hmax := hb.max
  have hlen := hb.len
  have HLEN := Lib.hid hlen
  clear hlen
  go_enter Tryz.func28, Tryz.ntmps28
  go_wp2
  go_loopw [5, 6] (fun v i wr => ∃ k : Nat, i = .int .i64 k ∧ RowsAt l w v k wr) (fun _ i _ => n - (intOf i).toNat)
  case atStart => exact ⟨0, rfl, [], l.length + 1, OwnRows.nil _ _, by omega, by simp, by omega, rfl, Below.refl _ _⟩
  case round =>
    obtain ⟨k, rfl, ls, f, hrows, hk, hlk, hf, hrs, hbel⟩ := hrel
    rw [HLEN.out] at hk hf
    by_cases hlt : k < n
    · obtain ⟨b, off, rfl⟩ : ∃ b off, a = some ⟨b, off, none⟩ := by
        rcases hb.adr with h | ⟨b, off, h, _⟩
        · omega
        · exact ⟨b, off, h⟩
      have hdr := (hb.below hbel).drop (q := k) hk
      rw [Option.map_some, addr_add] at hdr
      have hcq : ¬ cap = k := by omega
      have hki : (k : Int) ≤ (n : Int) ∧ (k : Int) < (n : Int) := by omega
      obtain ⟨⟨m, sz, er⟩, hO⟩ : ∃ o, openS (l.drop k) = o := ⟨_, rfl⟩
      have hlk2 : (l.drop k).length = n - k := by rw [List.length_drop, HLEN.out]
      obtain ⟨f', rfl⟩ : ∃ f', f = f' + 1 := ⟨f - 1, by omega⟩
      have HC : Hid (Calls Tryz.prog 63 #[.slice (some ⟨b, off + k, none⟩) (n - k) (cap - k)] wr fun e w1 => ∃ v, e = .returned (.tuple #[v, .int .i64 sz, .int .i64 er]) ∧ OwnB w1 wr.heap.size 5 v m ∧ Below wr.heap.size wr w1) :=
        Lib.hid (by have := ropen_c hdr (by omega); unfold OpenPost at this; rw [hO] at this; exact this)
      rcases openS_cases (l.drop k) with ⟨e, he, hne⟩ | ⟨m', sz', he, h6, hkl, _⟩
      · rw [hO] at he
        injection he with he1 he2
        injection he2 with he2 he3
        subst he1; subst he2; subst he3
        have HR := Lib.hid (show rowsS l = (ls, k, er) by rw [hrs]; exact rowsF_stop (by rw [HLEN.out]; exact hlt) hO hne)
        have hb1 : (er != 0) = true := by rw [bne_iff_ne]; exact hne
        clear hO hlk2 hrs hne hdr
        go_wp2_with (go_at_call 63; refine (HC.out).mono ?_; rintro e w1 ⟨v, rfl, hov, hbv⟩)
        go_ret3
        exact RowsPost.mk HR.out (hrows.kept hbv) (hbel.trans (hbv.mono hbel.size))
      · rw [hO] at he
        injection he with he1 he2
        injection he2 with he2 he3
        subst he1; subst he2; subst he3
        rw [hlk2] at hkl
        have HR := Lib.hid (show rowsS l = rowsF f' l (k + sz') (ls ++ [m]) by rw [hrs, rowsF_next (by rw [HLEN.out]; exact hlt) hO, Int.toNat_natCast])
        obtain ⟨vs, hr1, hr2, hr3⟩ := hrows
        have HR2 := Lib.hid hr2
        have HR3 := Lib.hid hr3
        have hvl : vs.length ≤ k := by omega
        clear hO hlk2 hrs hdr hr2 hr3
        go_wp2_with (first
          | (go_at_call 63; refine (HC.out).mono ?_; rintro e w1 ⟨v, rfl, hov, hbv⟩; obtain ⟨av, nv, cv, hve, _⟩ := hov.isBys; subst hve; have hr1 : w1.ownsRow w.heap.size 34 1 _ vs.length vs := ownsRow_below hr1 hbv)
          | (at_builtin; refine wpList_append_own _ rfl _ _ 39 rfl w.heap.size 34 i0 (.slice none 0 0) 1 24 Tryz.underlying39 hi hz0 hz1 hz2 rfl (by decide) _ _ _ rfl (hr1.alloc _) ⟨w1.heap.size, 0, none⟩ 1 1 [.slice av nv cv] rfl rfl (cell_one_new _ _ _) (by simp [Value.oneCell']) (by unfold maxLen; omega) (by omega) (by have := hbv.size; have := hbel.size; simp; omega) ?_; intro v' w2 hown' hgrow _))
        go_roundw
        case rel =>
          have hb1 : Below w.heap.size w w1 := hbel.trans (hbv.mono hbel.size)
          have hs1 : SameBytes wr w1 := (KB.of_below (n₀ := wr.heap.size) (Bn := 0) (Nat.le_refl _) hbv).bytes
          exact ⟨k + sz', by go_num, ls ++ [m], f', OwnRows.snoc hr1 HR2.out (fun i hi => (HR3.out i hi).keptBytes hs1) (hov.mono hbel.size) hgrow hown', by rw [HLEN.out]; omega, by simp; omega, by rw [HLEN.out]; omega, HR.out, (hb1.alloc hb1.size _).grown hgrow (by have := hb1.size; simp; omega) (fun j hj => (World.ownsRow.lt hr1 j hj).1)⟩
        case measure => simp [intOf]; omega
    · obtain rfl : k = n := by omega
      have HR := Lib.hid (show rowsS l = (ls, k, 0) by rw [hrs]; exact rowsF_end (by rw [HLEN.out]; exact Nat.le_refl _))
      clear hrs
      go_wp2
      go_ret3
      exact RowsPost.mk HR.out hrows hbel
end Go.Proofs.YtioeimkaljmffaaGreatDoor
end

section
namespace Go.Proofs.YtioeimkaljmffaaGreatDoor
open Go.RowKit Go
set_option linter.unusedVariables false

theorem Rws.take {w : World} {a : Option Addr} {n cap : Nat} {ls : List (List UInt8)} (h : Rws w a n cap ls) {q : Nat} (hq : q ≤ n) : Rws w a q cap (ls.take q) := by
  refine ⟨by rw [List.length_take, h.len]; omega, by have := h.le; omega, h.max, ?_⟩
  rcases h.adr with h4 | ⟨b, off, rfl, hc⟩
  · exact .inl h4
  · refine .inr ⟨b, off, rfl, fun i hi => ?_⟩
    obtain ⟨ai, ni, ci, h1, h2⟩ := hc i (by omega)
    refine ⟨ai, ni, ci, h1, ?_⟩
    have : (ls.take q).getD i [] = ls.getD i [] := by simp [List.getD, hi]
    rw [this]; exact h2

end Go.Proofs.YtioeimkaljmffaaGreatDoor
end

section
namespace Go.Proofs.YtioeimkaljmffaaGreatDoor
open Go.RowKit Go Go.Sort
set_option linter.unusedVariables false

theorem chain_tail : ∀ {s : Sg} {r : List Sg} {n : Int}, Chain (s :: r) n → Chain r n
  | s, r, n, h => by
    obtain ⟨-, -, -, h⟩ := h
    exact h
theorem del_first {s : Sg} {r : List Sg} {b : Int} {f : Fi} (hc : Chain (s :: r) b) (hb : b ≤ 999999999999) (hn : f.nm = nameW 119 b) : delF (nameW 119 s.1) ((s :: r).map sgF ++ [f]) = r.map sgF ++ [f] := by
  have hp := names_ne hc hb hn
  rw [List.map_cons, List.cons_append] at hp ⊢
  have h1 := (List.pairwise_cons.1 hp).1
  unfold delF
  rw [List.filter_cons, if_neg (by simp [sgF]), List.filter_eq_self]
  intro x hx
  have := h1 x hx
  have h2 : (x.nm == nameW 119 s.1) = false := by
    rw [beq_eq_false_iff_ne]
    exact fun e => this e.symm
  rw [h2]
  rfl
/-- What retiring makes of the segments. -/
theorem retF_chain {n b : Int} {f : Fi} (hb : b ≤ 100000000) (hn : f.nm = nameW 119 b) : ∀ (S : List Sg) (st : Ds), Chain S b → st.F = S.map sgF ++ [f] → st.on = true → st.plan = false →
    ∃ pre T st', S = pre ++ T ∧ retF n (S.map (fun s => s.1) ++ [b]) st = (0, st', T.map (fun s => s.1) ++ [b]) ∧ st'.F = T.map sgF ++ [f] ∧ st'.on = true ∧ st'.plan = false ∧ st'.room = st.room ∧ st'.fails = st.fails ∧ Chain T b ∧ (pre = [] ∨ (T.map (fun s => s.1) ++ [b]).getD 0 0 ≤ n)
  | [], st, hc, hF, ho, hp => ⟨[], [], st, rfl, retF_one n st (by simp), hF, ho, hp, rfl, rfl, hc, .inl rfl⟩
  | s :: r, st, hc, hF, ho, hp => by
    have hnf : ¬ Fires st := fun hf => by have := hf.1; rw [hp] at this; cases this
    obtain ⟨b2, r2, hr2⟩ : ∃ b2 r2, r.map (fun s => s.1) ++ [b] = b2 :: r2 := by cases r <;> exact ⟨_, _, rfl⟩
    have hS : (s :: r).map (fun s => s.1) ++ [b] = s.1 :: b2 :: r2 := by rw [List.map_cons, List.cons_append, hr2]
    rw [hS]
    by_cases h2 : b2 ≤ n
    · have ed : st.drop (nameW 119 s.1) = (0, { st with F := r.map sgF ++ [f], ops := wr64 (st.ops + 1), pn := if st.plan = true then st.pn - 1 else st.pn }) := by
        unfold Ds.drop
        have hlk : lookF st.F (nameW 119 s.1) = some (sgF s) := look_mem (f := sgF s) (by rw [hF]; exact names_ne hc (by omega) hn) (by rw [hF]; simp)
        rw [if_neg (by rw [ho]; decide), hlk]
        simp only
        rw [pn_step _ _ hnf, hF, del_first hc (by omega) hn]
      have hrest := retF_chain (n := n) hb hn r { st with F := r.map sgF ++ [f], ops := wr64 (st.ops + 1), pn := if st.plan = true then st.pn - 1 else st.pn } (chain_tail hc) rfl ho hp
      obtain ⟨pre, T, st', e1, e2, e3, e4, e5, e6, e7, e8, e9⟩ := hrest
      refine ⟨s :: pre, T, st', by rw [e1]; rfl, ?_, e3, e4, e5, e6, e7, e8, .inr ?_⟩
      · rw [retF_go h2 (by rw [ed]), ed, ← hr2]
        exact e2
      · rcases e9 with e9 | e9
        · subst e9
          rw [List.nil_append] at e1
          subst e1
          rw [hr2]
          exact h2
        · exact e9
    · exact ⟨[], s :: r, st, rfl, by rw [retF_stop h2, hS], hF, ho, hp, rfl, rfl, hc, .inl rfl⟩
theorem Wk.retired {st : Ds} {g : Lg} {S : List Sg} {b : Int} {rl : List (List UInt8)} {su : Nat} (h : Wk st g S b rl su) (hp : st.plan = false) (n : Int) :
    ∃ pre T, S = pre ++ T ∧ (rtyL st g n).1 = 0 ∧ Wk (rtyL st g n).2.1 (rtyL st g n).2.2 T b rl su ∧ (rtyL st g n).2.1.plan = false ∧ (rtyL st g n).2.2.next = g.next ∧ (rtyL st g n).2.2.most = g.most ∧ (pre = [] ∨ (rtyL st g n).2.2.B.getD 0 0 ≤ n) := by
  obtain ⟨pre, T, st', e1, e2, e3, e4, e5, e6, e7, e8, e9⟩ := retF_chain (n := n) (f := ⟨nameW 119 b, framesS rl, su⟩) h.ble rfl S st h.ch h.files h.on hp
  have er : rtyL st g n = (0, st', { g with B := T.map (fun s => s.1) ++ [b] }) := by
    unfold rtyL
    rw [if_neg (by rw [h.fl.1, h.fl.2]; simp), h.B, e2]
  rw [er]
  refine ⟨pre, T, e1, rfl, ⟨e3, e4, e6.trans h.room, e8, h.b1, rfl, h.nx, h.mx, h.sz, ⟨e7.trans h.fl.1, h.fl.2⟩, h.sux, h.sure, ?_⟩, e5, rfl, rfl, e9⟩
  intro r hr
  refine h.short r ?_
  rw [e1, recsOf_append]
  simp only [List.mem_append] at hr ⊢
  rcases hr with hr | hr
  · exact .inl (.inr hr)
  · exact .inr hr
theorem recs_len : ∀ {S : List Sg} {n : Int}, Chain S n → S.length ≤ (recsOf S).length
  | [], _, _ => Nat.zero_le _
  | s :: r, n, h => by
    have h1 := recs_len (chain_tail h)
    obtain ⟨-, -, h2, -⟩ := h
    simp only [recsOf, List.flatMap_cons, List.length_append, List.length_cons] at h1 ⊢
    omega
/-- A frame is at most ten bytes longer than its body. -/
theorem wrap_ten {l : List UInt8} (h : l.length ≤ 10000) : (wrapS l).length ≤ l.length + 10 ∧ l.length ≤ (wrapS l).length := by
  have h1 := wrapS_length (l := l) (by omega)
  obtain ⟨q, e1, e2, -, -⟩ := headS_size l.length (by omega)
  have h3 : sizeS (l.length : Int) ≤ 4 := by
    unfold sizeS
    repeat (first | omega | split)
  omega
def costS (ls : List (List UInt8)) : Nat := (ls.map fun l => 20 + l.length).sum
theorem costS_snoc (ls : List (List UInt8)) (l : List UInt8) : costS (ls ++ [l]) = costS ls + (20 + l.length) := by simp [costS]
theorem cost_frames : ∀ (ls : List (List UInt8)), costS ls ≤ 10000 → (framesS ls).length + 10 * ls.length ≤ costS ls
  | [], _ => by simp [framesS, costS]
  | l :: r, h => by
    have e : costS (l :: r) = 20 + l.length + costS r := by simp [costS]
    rw [e] at h ⊢
    have ih := cost_frames r (by omega)
    have hw := (wrap_ten (l := l) (by omega)).1
    rw [framesS_cons, List.length_append, List.length_cons]
    omega
theorem cost_take (ls : List (List UInt8)) (j : Nat) : costS (ls.take j) ≤ costS ls := by
  have : costS ls = costS (ls.take j) + costS (ls.drop j) := by
    unfold costS
    rw [← List.sum_append, ← List.map_append, List.take_append_drop]
  omega
theorem cost_mem {ls : List (List UInt8)} {l : List UInt8} (h : l ∈ ls) : l.length + 20 ≤ costS ls := by
  induction ls with
  | nil => cases h
  | cons a r ih =>
    have e : costS (a :: r) = 20 + a.length + costS r := by simp [costS]
    rw [e]
    rcases List.mem_cons.1 h with rfl | h
    · omega
    · have := ih h; omega
/-- A log that records are put into, one behind the other. -/
structure Rt (st : Ds) (g : Lg) (recs : List (List UInt8)) (S : List Sg) (b : Int) (rl : List (List UInt8)) (su : Nat) : Prop where
  wk : Wk st g S b rl su
  all : recsOf S ++ rl = recs
  plan : st.plan = false
  most : 300 ≤ g.most ∧ g.most ≤ 1048576
  next : g.next = 1 + (recs.length : Int)
  few : 301 * S.length + (framesS rl).length ≤ 2 * (framesS recs).length
theorem Rt.app {st : Ds} {g : Lg} {recs : List (List UInt8)} {S : List Sg} {b : Int} {rl : List (List UInt8)} {su : Nat} (h : Rt st g recs S b rl su) {l : List UInt8} (hc : costS (recs ++ [l]) ≤ 10000) :
    (appL st g l).1 = (1 + (recs.length : Int), 0) ∧ ∃ S' b' rl' su', Rt (appL st g l).2.1 (appL st g l).2.2 (recs ++ [l]) S' b' rl' su' := by
  have hcf := cost_frames _ hc
  rw [framesS_snoc, List.length_append, List.length_append, List.length_singleton] at hcf
  have hl : l.length + 20 ≤ 10000 := Nat.le_trans (cost_mem (ls := recs ++ [l]) (by simp)) hc
  have hcnt : 30 * recs.length ≤ 30 * recs.length := Nat.le_refl _
  have hrl := recs_len h.wk.ch
  have hall := congrArg List.length h.all
  rw [List.length_append] at hall
  have hfew := h.few
  have hnx := h.next
  have hseg : 0 < rl.length → g.most < g.size + ((wrapS l).length : Int) → S.length + 1 < 64 := fun h1 h2 => by
    have h3 := h.wk.sz
    have h4 := h.most.1
    omega
  have hwn := h.wk.nx
  rcases h.wk.app (l := l) (by rw [h.all]; omega) (by omega) (by omega) hseg (by omega) with ha | ⟨hp, -⟩
  · obtain ⟨S', b', rl', su', w, e, hcase⟩ := ha.ex
    refine ⟨by rw [ha.ok, hnx], S', b', rl', su', ⟨w, by rw [e, h.all], by rw [ha.plan]; exact h.plan, by rw [ha.most]; exact h.most, by rw [ha.next, hnx]; simp; omega, ?_⟩⟩
    rw [framesS_snoc, List.length_append]
    rcases hcase with ⟨e1, -, e2, -, -⟩ | ⟨e1, e2, h1, h2, -⟩
    · rw [e1, e2, framesS_snoc, List.length_append]; omega
    · have h3 := h.wk.sz
      have h4 := h.most.1
      rw [e1, e2, List.length_append, List.length_singleton]
      have e9 : (framesS [l]).length = (wrapS l).length := by simp [framesS]
      rw [e9]
      omega
  · rw [h.plan] at hp; cases hp
/-- The first number, and the records that are left. -/
theorem first_is {S pre T : List Sg} {b : Int} {rl ls : List (List UInt8)} (hc : Chain T b) (hS : S = pre ++ T) (hall : recsOf S ++ rl = ls) (hb : b + (rl.length : Int) = 1 + (ls.length : Int)) {f0 : Int} {r0 : List Int} (hB : T.map (fun s => s.1) ++ [b] = f0 :: r0) :
    f0 = 1 + ((recsOf pre).length : Int) ∧ ls.drop (recsOf pre).length = recsOf T ++ rl ∧ (recsOf pre).length ≤ ls.length := by
  have e : ls = recsOf pre ++ (recsOf T ++ rl) := by rw [← hall, hS, recsOf_append, List.append_assoc]
  have hlen := congrArg List.length e
  rw [List.length_append, List.length_append] at hlen
  refine ⟨?_, by rw [e, List.drop_left], by omega⟩
  cases T with
  | nil =>
    simp only [List.map_nil, List.nil_append] at hB
    injection hB with h1 h2
    have h0 : (recsOf ([] : List Sg)).length = 0 := rfl
    omega
  | cons t r =>
    have h1 := chain_first rfl hc
    rw [List.map_cons, List.cons_append] at hB
    injection hB with h2 h3
    omega
theorem Rws.drop {w : World} {b off n cap : Nat} {ls : List (List UInt8)} (h : Rws w (some ⟨b, off, none⟩) n cap ls) {k : Nat} (hk : k ≤ n) : Rws w (some ⟨b, off + k, none⟩) (n - k) (cap - k) (ls.drop k) := by
  have hle := h.le
  have hmax := h.max
  refine ⟨by rw [List.length_drop, h.len], by omega, by omega, ?_⟩
  rcases h.adr with h4 | ⟨b', off', e, hc⟩
  · exact .inl (by omega)
  · injection e with e
    injection e with e1 e2
    subst e1 e2
    refine .inr ⟨b, off + k, rfl, fun i hi => ?_⟩
    obtain ⟨ai, ni, ci, h1, h2⟩ := hc (k + i) (by omega)
    refine ⟨ai, ni, ci, by rw [Nat.add_assoc]; exact h1, ?_⟩
    have : (ls.drop k).getD i [] = ls.getD (k + i) [] := by simp [List.getD]
    rw [this]; exact h2
theorem Rws.dropO {w : World} {a : Option Addr} {n cap : Nat} {ls : List (List UInt8)} (h : Rws w a n cap ls) {k : Nat} (hk : k ≤ n) : Rws w (Option.map (fun x => x.add k) a) (n - k) (cap - k) (ls.drop k) := by
  have hle := h.le
  have hmax := h.max
  rcases h.adr with h4 | ⟨b, off, rfl, hc⟩
  · exact ⟨by rw [List.length_drop, h.len], by omega, by omega, .inl (by omega)⟩
  · have e : Option.map (fun x : Addr => x.add k) (some ⟨b, off, none⟩) = some ⟨b, off + k, none⟩ := by
      by_cases h0 : k = 0
      · subst h0; rfl
      · simp [Addr.add, h0]
    rw [e]
    exact h.drop hk
theorem Rws.dropZ {w : World} {a : Option Addr} {n cap : Nat} {ls : List (List UInt8)} (h : Rws w a n cap ls) {k : Nat} (hk : k ≤ n) (hz : cap ≤ k) : Rws w a (n - k) 0 (ls.drop k) := by
  have hle := h.le
  exact ⟨by rw [List.length_drop, h.len], by omega, by omega, .inl rfl⟩
end Go.Proofs.YtioeimkaljmffaaGreatDoor
end

section
namespace Go.Proofs.YtioeimkaljmffaaGreatDoor
open Go.RowKit Go Go.Sort
set_option linter.unusedVariables false
set_option maxRecDepth 20000

/-- A sum that is asked about up to 10000. -/
def satB (n k : Nat) : Nat := if n + k ≤ 10000 then n + k else 10001
theorem satB_le (n k : Nat) : satB n k ≤ 10001 := by unfold satB; split <;> omega
theorem satB_full {n : Nat} (h : 10000 < n) (k : Nat) : satB n k = 10001 := by unfold satB; rw [if_neg (by omega)]
theorem satB_fits {n k : Nat} (h : satB n k ≤ 10000) : satB n k = n + k ∧ n + k ≤ 10000 := by unfold satB at h ⊢; split <;> rename_i hh
                                                                                           <;> first
                                                                                             | exact ⟨rfl, hh⟩
                                                                                             | (rw [if_neg hh] at h; omega)
set_option maxHeartbeats 11000000 in
theorem radd10_c (n k : Nat) (hn : n ≤ 10001) (hk : k ≤ 9223372036854775807) (w : World) : Calls Tryz.prog 24 #[.int .i64 (n : Int), .int .i64 (k : Int), .int .i64 10000] w (fun e w' => e = .returned (.int .i64 ((satB n k : Nat) : Int)) ∧ w = w') := by
  obtain ⟨R, hR⟩ : ∃ R, satB n k = R := ⟨_, rfl⟩
  rw [hR]
  unfold satB at hR
  by_cases h1 : 10000 < n
  · have h1i : (10000 : Int) < (n : Int) := by omega
    obtain rfl : 10001 = R := by rw [← hR, if_neg (by omega)]
    clear hR
    go_enter Tryz.func24, Tryz.ntmps24
    go_wp2
    go_ret
    exact ⟨rfl, rfl⟩
  · have h1i : ¬ (10000 : Int) < (n : Int) := by omega
    by_cases h2 : 10000 < k
    · have h2i : (10000 : Int) < (k : Int) := by omega
      obtain rfl : 10001 = R := by rw [← hR, if_neg (by omega)]
      clear hR
      go_enter Tryz.func24, Tryz.ntmps24
      go_wp2
      go_ret
      exact ⟨rfl, rfl⟩
    · have h2i : ¬ (10000 : Int) < (k : Int) := by omega
      have hs1 : 10000 - (k : Int) ≤ 9223372036854775807 := by omega
      have hs2 : -9223372036854775808 ≤ 10000 - (k : Int) := by omega
      by_cases h3 : n + k ≤ 10000
      · have h3i : ¬ 10000 - (k : Int) < (n : Int) := by omega
        have HR := Lib.hid (show (n : Int) + (k : Int) = (R : Int) by rw [← hR, if_pos h3]; omega)
        have ha1 : (n : Int) + (k : Int) ≤ 9223372036854775807 := by omega
        clear hR
        go_enter Tryz.func24, Tryz.ntmps24
        go_wp2
        go_ret
        exact ⟨by rw [← HR.out]; go_num, rfl⟩
      · have h3i : 10000 - (k : Int) < (n : Int) := by omega
        obtain rfl : 10001 = R := by rw [← hR, if_neg (by omega)]
        clear hR
        go_enter Tryz.func24, Tryz.ntmps24
        go_wp2
        go_ret
        exact ⟨rfl, rfl⟩
theorem radd10_t (n k : Nat) (hn : n ≤ 10001) (hk : k ≤ 9223372036854775807) (w : World) : Calls Tryz.prog 24 #[.int .i64 (n : Int), .int .i64 (k : Int), .int .i64 10000] w (Tells (.int .i64 ((satB n k : Nat) : Int)) w) :=
  (radd10_c n k hn hk w).mono fun e w' ⟨h1, h2⟩ => ⟨h1, by subst h2; exact Below.refl _ _⟩
end Go.Proofs.YtioeimkaljmffaaGreatDoor
end

section
namespace Go.Proofs.YtioeimkaljmffaaGreatDoor
open Go.RowKit Go Go.Sort Go.Maps Go.WideMaps
set_option linter.unusedVariables false
set_option maxRecDepth 20000

def wb4 : List UInt8 := [97, 97, 97, 97]
def wex0 : Ds := Ds.new 1000
def wex : Nat → Ds × Lg
  | 0 => (beginL wex0 (lg0 wex0 [] 20)).2
  | i + 1 => (appL (wex i).1 (wex i).2 wb4).2
theorem wexA : beginL wex0 (lg0 wex0 [] 20) = (0, (wex 0).1, (wex 0).2) := by kernel_rfl
theorem wexB : (wex0.read []).2 = 152 := by kernel_rfl
theorem wexC : numsF (wex0.F.map Fi.nm) = [] := by kernel_rfl
theorem wex1 : (appL (wex 0).1 (wex 0).2 wb4).1 = (1, 0) := by kernel_rfl
theorem wex2 : (appL (wex 1).1 (wex 1).2 wb4).1 = (2, 0) := by kernel_rfl
theorem wex3 : (appL (wex 2).1 (wex 2).2 wb4).1 = (3, 0) := by kernel_rfl
theorem wexI (i : Nat) (h : i < 3) : (appL (wex i).1 (wex i).2 wb4).1 = ((i : Int) + 1, 0) := by
  rcases (by omega : i = 0 ∨ i = 1 ∨ i = 2) with rfl | rfl | rfl
  · exact wex1
  · exact wex2
  · exact wex3
theorem wexL : (wrapS wb4).length = 10 := by kernel_rfl
theorem wexZ : (wex 0).2 = ⟨[1], 0, 1, 0, 20, 0⟩ := by kernel_rfl
theorem wexK (i : Nat) : GOk (wex i).2 (2 * i) := by
  induction i with
  | zero => rw [wexZ]; exact ⟨by decide, by decide, by simp, by decide, by decide, by decide⟩
  | succ i ih => exact ih.app (wex i).1 (by rw [wexL]; decide)
theorem wexN : (wex 3).2.next = 4 := by kernel_rfl
theorem wexF : (wex 3).1.F.map Fi.nm = [nameW 119 1, nameW 119 3] := by kernel_rfl
theorem wexT : text (nameW 119 3) = ⟨#[119, 48, 48, 48, 48, 48, 48, 48, 48, 48, 48, 48, 51]⟩ := by kernel_rfl
theorem wexR : readW 119 (nameW 119 3) = 3 := by kernel_rfl
theorem wfour_bys (w : World) (m : Nat × Nat) : Bys (w.alloc (.cells #[.int .u8 97, .int .u8 97, .int .u8 97, .int .u8 97] 5 m)) (some ⟨w.heap.size, 0, none⟩) 4 4 wb4 := by
  refine ⟨rfl, Nat.le_refl _, by omega, .inr ⟨w.heap.size, 0, rfl, fun i hi => ?_⟩⟩
  have h : (w.alloc (.cells #[.int .u8 97, .int .u8 97, .int .u8 97, .int .u8 97] 5 m)).heap[w.heap.size]? = some (.cells #[.int .u8 97, .int .u8 97, .int .u8 97, .int .u8 97] 5 m) := by
    show (w.heap.push _)[w.heap.size]? = _
    simp
  unfold World.cell?
  rw [h]
  rcases (by omega : i = 0 ∨ i = 1 ∨ i = 2 ∨ i = 3) with rfl | rfl | rfl | rfl <;> rfl
theorem lapp_new {w0 W : World} {q p : Nat} {i b : Nat} (hi : i < 3) (h : Wg w0 q p (wex i).1 (wex i).2 W) (hT : TabE w0) {m : Nat × Nat} {C : Array Value} (hC : C = #[.int .u8 97, .int .u8 97, .int .u8 97, .int .u8 97]) (hb : W.heap.size = b) :
    Calls Tryz.prog 17 #[.pointer (some ⟨p, 0, none⟩), .slice (some ⟨b, 0, none⟩) 4 4] (W.alloc (.cells C 5 m)) (fun e W' => e = .returned (.tuple #[.int .i64 ((i : Int) + 1), .int .i64 0]) ∧ Wg w0 q p (wex (i + 1)).1 (wex (i + 1)).2 W') := by
  subst hb
  subst hC
  have h2 := lappend_c (h.below (alloc_below W _)) (wexK i) (by omega) hT (wfour_bys W m) (by omega)
  rw [wexI i hi] at h2
  exact h2
set_option maxRecDepth 100000 in
set_option maxHeartbeats 6400000 in
theorem wlives_c {w : World} (hT : TabE w) : Calls Tryz.prog 10 #[] w (Tells (.bool true) w) := by
  have kc := fun (w : World) (C : Array Value) (n c : Nat) => Lib.run_convert_bytes_const (P := Tryz.prog) w 34 5 C n c Tryz.underlying34 Tryz.underlying5
  have HTE := Lib.hid hT
  clear hT
  go_enter Tryz.func10, Tryz.ntmps10
  go_wp2_with (first
    | (go_at_call 7; (with_reducible refine (lv_new 1000 _ (by omega) (by omega)).mono ?_); rintro e1 w1 ⟨q, rfl, hl1⟩; have HL := Lib.hid (show Lv w w1 q wex0 from hl1); clear hl1)
    | (go_at_call 14; obtain ⟨F1, hd1, hF1, hb1⟩ := HL.out; (with_reducible refine (wopen_none hd1 hF1 hb1 HTE.out wexB wexC 20 (by omega) (by omega) wexA).mono ?_); rintro e2 w2 ⟨p, rfl, hg2⟩; clear hd1 hF1 hb1; have HG := Lib.hid hg2; clear hg2))
  clear HL
  go_loopw [27] (fun j wr => ∃ i : Nat, i ≤ 3 ∧ j = .int .i64 (i : Int) ∧ Wg w q p (wex i).1 (wex i).2 wr) (fun j _ => 3 - (intOf j).toNat)
  case atStart => exact ⟨0, by omega, rfl, HG.out⟩
  case round =>
    obtain ⟨i, hi, rfl, hg⟩ := hrel
    have HGI := Lib.hid hg
    clear hg
    by_cases hlt : i < 3
    · have hji : (i : Int) < 3 := by omega
      have hle : (i : Int) ≤ 9000 := by omega
      have HLT := Lib.hid hlt
      clear hlt
      go_wp2_with (go_at_call 17; (with_reducible refine (lapp_new HLT.out HGI.out HTE.out rfl rfl).mono ?_); rintro e3 w3 ⟨rfl, hg3⟩; have HG3 := Lib.hid hg3; clear hg3)
      go_roundw
      case rel => exact ⟨i + 1, HLT.out, by go_num, HG3.out⟩
      case measure => simp [intOf]; omega
    · obtain rfl : i = 3 := by omega
      have hji : ¬ ((3 : Nat) : Int) < 3 := by omega
      have HNX := Lib.hid (fun (W : World) (hb : Wg w q p (wex 3).1 (wex 3).2 W) => (show Calls Tryz.prog 23 #[.pointer (some ⟨p, 0, none⟩)] W (Tells (.int .i64 4) W) from by
        obtain ⟨bv, hl⟩ := hb.cs
        have := lnext_c hl
        rw [wexN] at this
        exact this))
      have HNU := Lib.hid (fun (W : World) (hb : Below w.heap.size w W) => (show Calls Tryz.prog 34 #[.string ⟨#[119, 48, 48, 48, 48, 48, 48, 48, 48, 48, 48, 48, 51]⟩] W (Tells (.int .i64 3) W) from by
        have := wnumber_c (nameW 119 3) (Nat.le_trans (nameW_len 119 3) (by omega)) (HTE.out.grown hb)
        rw [wexR, wexT] at this
        exact this))
      have HNM := Lib.hid (show Calls Tryz.prog 33 #[.pointer (some ⟨q, 0, none⟩)] wr (fun e W' => ∃ a c, e = .returned (.slice a 2 c) ∧ Below wr.heap.size wr W' ∧ 2 ≤ c ∧ ∃ b o, a = some ⟨b, o, none⟩ ∧ ∀ W2, Below W'.heap.size W' W2 → W2.cell? ⟨b, o + 1, none⟩ = some (.string ⟨#[119, 48, 48, 48, 48, 48, 48, 48, 48, 48, 48, 48, 51]⟩)) from by
        obtain ⟨F, G, ⟨m, pv, FS, h1, -⟩, -⟩ := HGI.out
        refine (dnames_c h1).mono fun e W' ⟨v, he, ho, hb⟩ => ?_
        rw [wexF] at ho
        obtain ⟨na, nc, rfl, hnl, hnm, hnat⟩ := ho.tx
        refine ⟨na, nc, he, hb, hnl, ?_⟩
        rcases hnat with h | ⟨b, rfl, h2⟩
        · rw [h] at hnl; simp at hnl
        · refine ⟨b, 0, rfl, fun W2 hb2 => ?_⟩
          have h3 := h2 1 (by simp)
          rw [Nat.zero_add]
          have hbk := hb2.block b (World.block_lt_of_cell? W' _ h3)
          simp only [World.cell?, hbk] at h3 ⊢
          exact h3)
      clear hi
      go_wp2_with (first
        | (go_at_call 33; (with_reducible refine HNM.out.mono ?_); rintro e4 w4 ⟨a4, c4, rfl, hb4, hc4, b4, o4, rfl, hat4⟩; have hx4 := hat4 w4 (Below.refl _ _); have HAT := Lib.hid hat4; have HG4 := Lib.hid (HGI.out.below hb4); clear hat4 hb4)
        | (go_at_call 23; (with_reducible refine (HNX.out _ HG4.out).mono ?_); rintro e5 w5 ⟨rfl, hb5⟩; have HG5 := Lib.hid (HG4.out.below hb5); have hx5 := HAT.out w5 hb5; clear hb5)
        | (go_at_call 34; (with_reducible refine (HNU.out _ HG5.out.b).mono ?_); rintro e6 w6 ⟨rfl, hb6⟩; have HG6 := Lib.hid (HG5.out.below hb6); clear hb6))
      go_ret
      exact ⟨rfl, HG6.out.b⟩
end Go.Proofs.YtioeimkaljmffaaGreatDoor
end

section
namespace Go.Proofs.YtioeimkaljmffaaGreatDoor
open Go.RowKit Go Go.Sort
set_option linter.unusedVariables false
set_option maxRecDepth 20000

theorem mem_le_sum : ∀ {L : List Nat} {x : Nat}, x ∈ L → x ≤ L.sum
  | [], x, h => by cases h
  | a :: r, x, h => by
    rw [List.sum_cons]
    rcases List.mem_cons.1 h with rfl | h
    · omega
    · have := mem_le_sum h; omega
def s21 : Ds := ⟨1048576, [⟨nameW 119 1, [], 0⟩], true, 1, 0, false, 0, 0⟩
def g21 (size : Int) : Lg := ⟨[1], 0, 1, 0, size, 0⟩
theorem begin21 (size : Int) : beginL (Ds.new 1048576) (lg0 (Ds.new 1048576) [] size) = (0, s21, g21 size) := by kernel_rfl
theorem read21 : ((Ds.new 1048576).read []).2 = 152 := by kernel_rfl
theorem nums21 : numsF ((Ds.new 1048576).F.map Fi.nm) = [] := by kernel_rfl
theorem wk21 (size : Int) : Wk s21 (g21 size) [] 1 [] 0 :=
  ⟨rfl, rfl, rfl, trivial, by omega, rfl, rfl, by show (1 : Int) ≤ 100000000; omega, rfl, ⟨rfl, rfl⟩, Nat.le_refl _, ⟨0, Nat.le_refl _, by rw [endS_zero]; exact Nat.le_refl _, by show (0 : Int) ≤ 1 + ((0 : Nat) : Int) - 1; omega⟩, fun r hr => by cases hr⟩
theorem rt21 {size : Int} (h : 300 ≤ size ∧ size ≤ 1048576) : Rt s21 (g21 size) [] [] 1 [] 0 := ⟨wk21 size, rfl, rfl, h, rfl, by simp [framesS]⟩
section
variable {w0 W : World} {q p : Nat} {st : Ds} {g : Lg} {S : List Sg} {b : Int} {rl recs : List (List UInt8)} {su : Nat}
theorem lv_open (h : Lv w0 W q (Ds.new 1048576)) (hT : TabE w0) {size : Int} (h1 : 1 ≤ size) (h2 : size ≤ 1048576) : Calls Tryz.prog 14 #[.pointer (some ⟨q, 0, none⟩), .int .i64 size] W (fun e W' => ∃ p, e = .returned (.tuple #[.pointer (some ⟨p, 0, none⟩), .slice none 0 0, .int .i64 0]) ∧ Wg w0 q p s21 (g21 size) W') := by
  obtain ⟨F, hd, hF, hb⟩ := h
  exact wopen_none hd hF hb hT read21 nums21 size h1 h2 (begin21 size)
theorem Wk.gok (h : Wk st g S b rl su) {n : Nat} (hS : S.length ≤ n) (hrl : (framesS rl).length ≤ 1000000) (hm : 0 ≤ g.most ∧ g.most ≤ 1048576) : GOk g n := by
  have hb1 := h.b1
  have hnx := h.nx
  have hmx := h.mx
  have hsz := h.sz
  refine ⟨by rw [h.B]; simp, by rw [h.B]; simp; omega, fun x hx => ?_, by omega, by omega, hm⟩
  rw [h.B] at hx
  rcases List.mem_append.1 hx with hx | hx
  · obtain ⟨s, hs, rfl⟩ := List.mem_map.1 hx
    have := chain_le h.ch s hs
    omega
  · rw [List.mem_singleton] at hx; subst hx; omega
theorem Rt.gok (h : Rt st g recs S b rl su) (hc : costS recs ≤ 10000) : GOk g 100 := by
  have hcf := cost_frames _ hc
  have hfew := h.few
  have hm := h.most
  exact h.wk.gok (by omega) (by omega) (by omega)
theorem rt_append (h : Wg w0 q p st g W) (hr : Rt st g recs S b rl su) (hT : TabE w0) {a : Option Addr} {m cap : Nat} {l : List UInt8} (hb : Bys W a m cap l) (hc : costS (recs ++ [l]) ≤ 10000) :
    Calls Tryz.prog 17 #[.pointer (some ⟨p, 0, none⟩), .slice a m cap] W (fun e W' => e = .returned (.tuple #[.int .i64 (1 + (recs.length : Int)), .int .i64 0]) ∧ ∃ st' g' S' b' rl' su', Rt st' g' (recs ++ [l]) S' b' rl' su' ∧ Wg w0 q p st' g' W') := by
  have hl : l.length + 20 ≤ 10000 := Nat.le_trans (cost_mem (ls := recs ++ [l]) (by simp)) hc
  have hlen := hb.len
  have hc0 : costS recs ≤ 10000 := by rw [costS_snoc] at hc; omega
  obtain ⟨e1, S', b', rl', su', hr'⟩ := hr.app hc
  refine (lappend_c h (hr.gok hc0) (by omega) hT hb (by omega)).mono fun e W' ⟨he, hw⟩ => ⟨?_, _, _, S', b', rl', su', hr', hw⟩
  rw [he, e1]
theorem wg_first (h : Wg w0 q p st g W) {n : Int} {r : List Int} (hB : g.B = n :: r) : Calls Tryz.prog 26 #[.pointer (some ⟨p, 0, none⟩)] W (Tells (.int .i64 n) W) := by
  obtain ⟨bv, hl⟩ := h.cs
  exact lfirst_c hl hB
theorem wg_next (h : Wg w0 q p st g W) : Calls Tryz.prog 23 #[.pointer (some ⟨p, 0, none⟩)] W (Tells (.int .i64 g.next) W) := by
  obtain ⟨bv, hl⟩ := h.cs
  exact lnext_c hl
theorem wg_sure (h : Wg w0 q p st g W) : Calls Tryz.prog 19 #[.pointer (some ⟨p, 0, none⟩)] W (Tells (.int .i64 g.sure) W) := by
  obtain ⟨bv, hl⟩ := h.cs
  exact lsure_c hl
theorem Fz.nofile {lb : List UInt8} (h : Fz st S b lb su) : ¬ (st.read []).2 = 0 := by
  have hb1 := h.b1
  have hb2 := h.b2
  unfold Ds.read
  rw [if_neg (by rw [h.on]; decide)]
  have : lookF st.F [] = none := by
    unfold lookF
    rw [List.find?_eq_none]
    intro x hx
    rw [h.files] at hx
    rcases List.mem_append.1 hx with hx | hx
    · obtain ⟨s, hs, rfl⟩ := List.mem_map.1 hx
      have h3 := chain_le h.ch s hs
      have := nameW_nil h3.1 (by omega)
      simpa [sgF] using this
    · rw [List.mem_singleton] at hx; subst hx
      have := nameW_nil hb1 (by omega)
      simpa using this
  rw [this]
  decide
/-- A disk is opened whose files are a log's. -/
theorem dk_open {F : Nat → Prop} (hd : Dk W q st F) (hF : ∀ k, F k → w0.heap.size ≤ k) (hb0 : Below w0.heap.size w0 W) (hT : TabE w0) {lb : List UInt8} (hz : Fz st S b lb su) (hsz : ∀ f ∈ st.F, f.b.length ≤ 99999) {bs : List (List UInt8)} {n : Nat} {er : Int} (hr : rowsS lb = (bs, n, er)) (hn : n ≤ lb.length) (he : er = 0 → n = lb.length) {size : Int} (h1 : 1 ≤ size) (h2 : size ≤ 1048576) :
    Calls Tryz.prog 14 #[.pointer (some ⟨q, 0, none⟩), .int .i64 size] W (fun e W' => ∃ p2 v st2 g2, e = .returned (.tuple #[.pointer (some ⟨p2, 0, none⟩), v, .int .i64 0]) ∧ Wg w0 q p2 st2 g2 W' ∧ OwnRows W' w0.heap.size v (recsOf S ++ bs) ∧ Opd st S b lb bs n size (0, st2, g2, recsOf S ++ bs)) := by
  have ho := hz.open hr hn he h1 h2
  refine (wopen_c hd hF hb0 hT hsz hz.nofile size).mono fun e W' ⟨hg, _⟩ => ?_
  obtain ⟨p2, v, e1, e2, e3⟩ := hg ho.ok
  refine ⟨p2, v, (openL st size).2.1, (openL st size).2.2.1, e1, e2, by rw [← ho.recs]; exact e3, ?_⟩
  have := ho.ok
  have h4 := ho.recs
  generalize openL st size = u at *
  obtain ⟨u1, u2, u3, u4⟩ := u
  simp only at this h4
  subst this h4
  exact ho
theorem wg_dk (h : Wg w0 q p st g W) : ∃ F, Dk W q st F ∧ (∀ k, F k → w0.heap.size ≤ k) ∧ Below w0.heap.size w0 W := by
  obtain ⟨F, G, hd, -, -, hF, -, hb⟩ := h
  exact ⟨F, hd, hF, hb⟩
theorem wg_lv (h : Wg w0 q p st g W) : Lv w0 W q st := wg_dk h
theorem Opd.fz {lb : List UInt8} {bs : List (List UInt8)} {n : Nat} {size : Int} {u : Int × Ds × Lg × List (List UInt8)} (hz : Fz st S b lb su) (h : Opd st S b lb bs n size u) : Fz u.2.1 S b (lb.take n) n :=
  ⟨h.files, h.on, h.plan, hz.ch, hz.b1, hz.b2, hz.short⟩
theorem Wk.fz (h : Wk st g S b rl su) (hp : st.plan = false) : Fz st S b (framesS rl) su :=
  ⟨h.files, h.on, hp, h.ch, h.b1, h.ble, fun s hs r hr => by have := h.short r (List.mem_append.2 (.inl (List.mem_flatMap.2 ⟨s, hs, hr⟩))); omega⟩
theorem files_small (h : st.F = filesS S b rl su) (hs : (framesS (recsOf S ++ rl)).length ≤ 99999) : ∀ f ∈ st.F, f.b.length ≤ 99999 := by
  have hu := used_files S b rl su
  rw [← h] at hu
  intro f hf
  have : f.b.length ≤ usedF st.F := by
    unfold usedF
    exact mem_le_sum (List.mem_map.2 ⟨f, hf, rfl⟩)
  omega
end
end Go.Proofs.YtioeimkaljmffaaGreatDoor
end

section
namespace Go.Proofs.YtioeimkaljmffaaGreatDoor
open Go.RowKit Go Go.Sort
set_option linter.unusedVariables false
set_option maxRecDepth 20000

theorem umodW (z M : Int) (h0 : 0 < M) (h1 : M ≤ 4611686018427387904) : ∃ q : Int, wrap64 ((IntKind.u64.wrap z).tmod M) = q ∧ 0 ≤ q ∧ q < M := by
  have e : IntKind.u64.wrap z = z % 18446744073709551616 := by simp [IntKind.wrap, IntKind.signed, IntKind.bits]
  rw [e]
  have h2 : 0 ≤ z % 18446744073709551616 := Int.emod_nonneg _ (by decide)
  rw [Int.tmod_eq_emod_of_nonneg h2]
  have h3 := Int.emod_nonneg (z % 18446744073709551616) (show M ≠ 0 by omega)
  have h4 := Int.emod_lt_of_pos (z % 18446744073709551616) h0
  refine ⟨_, rfl, ?_⟩
  unfold wrap64
  omega
theorem take_snoc {α : Type} {l : List α} {d : α} {i : Nat} (hi : i < l.length) : l.take (i + 1) = l.take i ++ [l.getD i d] := by
  rw [List.take_add_one, List.getElem?_eq_getElem hi, List.getD_eq_getElem?_getD, List.getElem?_eq_getElem hi]
  rfl
theorem Rws.place {w : World} {a : Option Addr} {n cap : Nat} {ls : List (List UInt8)} (h : Rws w a n cap ls) {k : Nat} (hk : k < n) : ∃ b off x m c, a = some ⟨b, off, none⟩ ∧ Bys w x m c (ls.getD k []) ∧ ∀ W', Below w.heap.size w W' → W'.cell? ⟨b, off + k, none⟩ = some (.slice x m c) := by
  have hle := h.le
  rcases h.adr with h4 | ⟨b, off, rfl, hc⟩
  · omega
  · obtain ⟨ai, ni, ci, h1, h2⟩ := hc k hk
    exact ⟨b, off, ai, ni, ci, rfl, h2, fun W' hb => (hb.cell (World.block_lt_of_cell? w _ h1)).trans h1⟩
set_option maxRecDepth 100000 in
set_option maxHeartbeats 12800000 in
theorem wretires_walk {w : World} (size lsn : Int) {a : Option Addr} {m cap : Nat} {ls : List (List UInt8)} (hl : Rws w a m cap ls) (hT : TabE w) : Calls Tryz.prog 5 #[.int .i64 size, .slice a m cap, .int .i64 lsn] w (Tells (.bool true) w) := by
  have hle := hl.le
  have hmax := hl.max
  have HLEN := Lib.hid hl.len
  have HL := Lib.hid hl
  have HTE := Lib.hid hT
  have HLV := Lib.hid (fun W (hb : Below w.heap.size w W) => wlives_c (hT.grown hb))
  clear hl hT
  obtain ⟨q3, hq3, hq3a, hq3b⟩ := umodW size 300 (by omega) (by omega)
  obtain ⟨sz, hsz⟩ : ∃ z, 300 + q3 = z := ⟨_, rfl⟩
  have HSZ := Lib.hid (show 300 ≤ sz ∧ sz ≤ 1048576 by omega)
  have hws : IntKind.i64.wrap (300 + q3) = sz := by rw [IntKind.wrap_i64]; omega
  have HQ3 := Lib.hid hq3
  have HWS := Lib.hid hws
  have HS3 := Lib.hid hsz
  clear hq3 hws hsz hq3a hq3b
  go_enter Tryz.func5, Tryz.ntmps5
  go_wp2
  go_loopw [7, 8] (fun v i9 wr => ∃ (i q : Nat), i ≤ m ∧ i9 = .int .i64 (i : Int) ∧ v = .int .i64 (q : Int) ∧ q ≤ 10001 ∧ (q ≤ 10000 → costS (ls.take i) = q) ∧ Below w.heap.size w wr) (fun _ i9 _ => m - (intOf i9).toNat)
  case atStart => exact ⟨0, 0, by omega, rfl, rfl, by omega, fun _ => rfl, Below.refl _ _⟩
  case round =>
    obtain ⟨i, q, hi, rfl, rfl, hq, hlo, hB⟩ := hrel
    have HB := Lib.hid hB
    have HLO := Lib.hid hlo
    clear hB hlo
    by_cases hf : 10000 < q
    · have hfi : ¬ (q : Int) ≤ 10000 := by omega
      have hfj : (10000 : Int) < (q : Int) := by omega
      by_cases hlt : i < m
      · have hii : (i : Int) < (m : Int) := by omega
        go_wp2_with (go_at_call 10; (with_reducible refine (HLV.out _ HB.out).mono ?_); rintro e20 w20 ⟨rfl, hb20⟩)
        go_ret
        exact ⟨rfl, HB.out.trans (hb20.mono HB.out.size)⟩
      · have hii : ¬ (i : Int) < (m : Int) := by omega
        go_wp2_with (go_at_call 10; (with_reducible refine (HLV.out _ HB.out).mono ?_); rintro e20 w20 ⟨rfl, hb20⟩)
        go_ret
        exact ⟨rfl, HB.out.trans (hb20.mono HB.out.size)⟩
    · have hfi : (q : Int) ≤ 10000 := by omega
      by_cases hlt : i < m
      · have hii : (i : Int) < (m : Int) := by omega
        have hic : (i : Int) < (cap : Int) := by omega
        obtain ⟨b, off, xa, ma, ca, rfl, hy, hat⟩ := HL.out.place hlt
        have c1 := hat _ HB.out
        have htk := take_snoc (d := []) (l := ls) (i := i) (by have := HLEN.out; omega)
        obtain ⟨A, hA⟩ : ∃ z, ls.getD i [] = z := ⟨_, rfl⟩
        rw [hA] at htk hy
        have hym := hy.max
        have hyl := hy.le
        have hyn := hy.len
        have hml : ma ≤ 9223372036854775807 := by omega
        have HT := Lib.hid (show satB (satB q 20) ma ≤ 10000 → costS (ls.take (i + 1)) = satB (satB q 20) ma from fun h => by
          obtain ⟨e2, h2⟩ := satB_fits h
          obtain ⟨e1, h1⟩ := satB_fits (n := q) (k := 20) (by omega)
          rw [htk, costS_snoc, HLO.out (by omega)]
          omega)
        have HA0 := Lib.hid (fun (d : Nat) (os : Array Obj) => (show Calls Tryz.prog 24 #[.int .i64 (q : Int), .int .i64 20, .int .i64 10000] (grow (redrawn wr d) os) _ from radd10_t q 20 hq (by omega) _).regrown_of)
        have HA1 := Lib.hid (fun (d : Nat) (os : Array Obj) => (radd10_t (satB q 20) ma (satB_le _ _) hml (grow (redrawn wr d) os)).regrown_of)
        have k1 := cell_regrown c1
        clear c1 hA hy htk hat hym hyn
        go_upto_region 5 with (fail)
        refine wp_region_quiet_below (by kernel_rfl) (by kernel_rfl) ?_
        repeat (go_big_quiet_step (first
          | with_reducible exact HA0.out _ _
          | with_reducible exact HA1.out _ _))
        refine wpQuiet_nil ?_
        intro _ hw'
        obtain ⟨⟨dq5, osq5⟩, hw''⟩ := hw'
        subst hw''
        have HBQ := Lib.hid (below_regrown wr dq5 osq5)
        clear k1
        go_wp2
        go_roundw
        case rel => exact ⟨i + 1, satB (satB q 20) ma, by omega, by go_num, rfl, satB_le _ _, HT.out, HB.out.trans (HBQ.out.mono HB.out.size)⟩
        case measure => simp [intOf]; omega
      · obtain rfl : i = m := by omega
        have hii : ¬ (i : Int) < (i : Int) := by omega
        have hfj : ¬ (10000 : Int) < (q : Int) := by omega
        have HC := Lib.hid (show costS ls ≤ 10000 by
          have := HLO.out (by omega)
          rw [List.take_of_length_le (by have := HLEN.out; omega)] at this
          omega)
        go_upto_region 8 with (fail)
        clear hfi hfj hf hii HLO
        obtain ⟨W0, hW0⟩ : ∃ Z, wr = Z := ⟨_, rfl⟩
        rw [hW0] at HB ⊢
        clear hW0
        go_upto_region 9 with (go_at_call 7; (with_reducible refine (lv_new 1048576 _ (by omega) (by omega)).mono ?_); rintro e1 w1 ⟨dq, rfl, hl1⟩; have HD := Lib.hid hl1; clear hl1)
        have HT0 := Lib.hid (HTE.out.grown HB.out)
        have HL0 := Lib.hid (HL.out.below HB.out)
        have HLV0 := Lib.hid (fun W (hb : Below W0.heap.size W0 W) => HLV.out W (HB.out.trans (hb.mono HB.out.size)))
        have hq3 := HQ3.out
        have hws := HWS.out
        go_upto_region 10 with (go_at_call 14; (with_reducible refine (lv_open HD.out HT0.out (size := sz) (by have := HSZ.out; omega) HSZ.out.2).mono ?_); rintro e2 w2 ⟨p, rfl, hg2⟩; have HG := Lib.hid hg2; clear hg2)
        clear hq3 hws HD
        go_upto_region 12 with (fail)
        go_upto_region 13 with (fail)
        go_loopw [61] (fun j wq => ∃ (k : Nat) (st : Ds) (g : Lg) (S : List Sg) (b : Int) (rl : List (List UInt8)) (su : Nat), k ≤ i ∧ j = .int .i64 (k : Int) ∧ Rt st g (ls.take k) S b rl su ∧ Wg W0 dq p st g wq) (fun j _ => i - (intOf j).toNat)
        case atStart => exact ⟨0, s21, g21 sz, [], 1, [], 0, by omega, rfl, rt21 HSZ.out, HG.out⟩
        case round =>
          clear HG
          obtain ⟨k, st, g, S, b, rl, su, hk, rfl, hrt, hwg⟩ := hrel
          have HRT := Lib.hid hrt
          have HWG := Lib.hid hwg
          clear hrt hwg
          by_cases hkm : k < i
          · have hki : (k : Int) < (i : Int) := by omega
            have hkc : (k : Int) < (cap : Int) := by omega
            obtain ⟨b9, off9, x9, m9, c9, rfl, hy, hat⟩ := HL0.out.place hkm
            have c1 := hat _ HWG.out.b
            have htk := take_snoc (d := []) (l := ls) (i := k) (by have := HLEN.out; omega)
            obtain ⟨A, hA⟩ : ∃ z, ls.getD k [] = z := ⟨_, rfl⟩
            rw [hA] at htk hy
            have hcc : costS (ls.take k ++ [A]) ≤ 10000 := by rw [← htk]; exact Nat.le_trans (cost_take ls (k + 1)) HC.out
            have HAP := Lib.hid (rt_append HWG.out HRT.out HT0.out (hy.below HWG.out.b) hcc)
            have HTK := Lib.hid htk
            clear hat hA hy htk hcc
            go_wp2_with (go_at_call 17; (with_reducible refine HAP.out.mono ?_); rintro e3 w3 ⟨rfl, st', g', S', b', rl', su', hr', hw'⟩; have HR' := Lib.hid hr'; have HW' := Lib.hid hw'; clear hr' hw')
            go_roundw
            case rel => exact ⟨k + 1, st', g', S', b', rl', su', by omega, by go_num, by rw [HTK.out]; exact HR'.out, HW'.out⟩
            case measure => simp [intOf]; omega
          · obtain rfl : k = i := by omega
            have hkk : ¬ (k : Int) < (k : Int) := by omega
            have hrt := HRT.out
            rw [List.take_of_length_le (by have := HLEN.out; omega)] at hrt
            have HRT := Lib.hid hrt
            obtain ⟨pre, T, hS, r1, wT, r3, r4, r4m, r5⟩ := hrt.wk.retired hrt.plan lsn
            have hgk := hrt.gok HC.out
            have hcf := cost_frames _ HC.out
            have hcost := HC.out
            have hTl : T.length ≤ 100 := by
              have h1 := hrt.few
              have h2 := congrArg List.length hS
              rw [List.length_append] at h2
              omega
            have hfl : (framesS rl).length ≤ 30000 := by have h1 := hrt.few; omega
            have hret := lretire_c HWG.out hgk HT0.out lsn
            rw [r1] at hret
            have HRET := Lib.hid hret
            have hmo := hrt.most
            have hall := hrt.all
            have hnx := hrt.wk.nx
            have hnn := hrt.next
            clear hret hrt hgk
            generalize rtyL st g lsn = u1 at *
            obtain ⟨z1, st1, g1⟩ := u1
            simp only at wT r3 r4 r4m r5
            have hnf : ¬ Fires st1 := fun hf => by have := hf.1; rw [r3] at this; cases this
            obtain ⟨s1, w2, s3, s4, s5, s6, s7, s8⟩ := wT.synced hnf
            have hgk1 : GOk g1 100 := wT.gok hTl (by omega) (by rw [r4m]; omega)
            have esy : snyL st1 g1 = syncL st1 g1 := if_neg (by rw [wT.fl.1, wT.fl.2]; simp)
            have HSY := Lib.hid (fun (W : World) (hw : Wg W0 dq p st1 g1 W) => lsync_c hw hgk1 HT0.out)
            rw [esy, s1] at HSY
            have hB2 := w2.B
            generalize syncL st1 g1 = u2 at *
            obtain ⟨z2, st2, g2⟩ := u2
            simp only at s1 w2 s3 s4 s5 s6 s7 s8 hB2
            obtain ⟨f0, r0, hfr⟩ : ∃ f0 r0, T.map (fun s => s.1) ++ [b] = f0 :: r0 := by cases T <;> exact ⟨_, _, rfl⟩
            obtain ⟨i1, i2, i3⟩ := first_is wT.ch hS hall (by omega) hfr
            obtain ⟨fn, hfn⟩ : ∃ z, (recsOf pre).length = z := ⟨_, rfl⟩
            rw [hfn] at i1 i2 i3
            have hlf : (1 : Int) < f0 → f0 ≤ lsn := fun h1 => by
              rcases r5 with e | e
              · subst e
                have : (recsOf ([] : List Sg)).length = 0 := rfl
                omega
              · rw [wT.B, hfr] at e
                exact e
            have hp2 : st2.plan = false := s7.trans r3
            have hfz := w2.fz hp2
            have htot : (framesS (recsOf T ++ rl)).length ≤ 99999 := by
              have h1 : (framesS (ls.drop fn)).length = (framesS (recsOf T ++ rl)).length := by rw [i2]
              have h2 : (framesS (ls.drop fn)).length ≤ (framesS ls).length := by
                have e : framesS ls = framesS (ls.take fn) ++ framesS (ls.drop fn) := by
                  unfold framesS
                  rw [← List.flatten_append, ← List.map_append, List.take_append_drop]
                rw [e, List.length_append]; omega
              omega
            have hsm := files_small w2.files htot
            have hshort : ∀ x ∈ rl, x.length ≤ 1048576 := fun x hx => by have := wT.short x (List.mem_append.2 (.inr hx)); omega
            have HOP := Lib.hid (fun (W : World) (hw : Wg W0 dq p st2 g2 W) => by
              obtain ⟨F, hd, hF, hb⟩ := wg_dk hw
              exact dk_open hd hF hb HT0.out hfz hsm (rows_full rl hshort) (Nat.le_refl _) (fun _ => rfl) (size := 300) (by omega) (by omega))
            have HFI := Lib.hid (fun (W : World) (hw : Wg W0 dq p st2 g2 W) => wg_first hw (hB2.trans hfr))
            have HNX := Lib.hid (fun (W : World) (hw : Wg W0 dq p st2 g2 W) => (show Calls Tryz.prog 23 #[.pointer (some ⟨p, 0, none⟩)] W (Tells (.int .i64 (1 + (k : Int))) W) from by
              have := wg_next hw
              rw [s6, r4, hnn] at this
              have e : (ls.length : Int) = (k : Int) := by have := HLEN.out; omega
              rw [← e]; exact this))
            have HI := Lib.hid (And.intro i1 (And.intro i2 i3))
            have HLF := Lib.hid hlf
            have HFR := Lib.hid hfr
            have HNB := Lib.hid (show b + (rl.length : Int) = 1 + (k : Int) by have := HLEN.out; omega)
            clear HRT hcost wT r3 r4 r4m r5 hS hcf hTl hfl hmo hall hnx hnn hnf w2 s3 s4 s5 s6 s7 s8 hgk1 esy hB2 hfr i1 i2 i3 hlf hp2 hfz htot hsm hshort hfn
            have hf1 : ¬ f0 < 1 := by have := HI.out.1; omega
            have hf2 : ¬ (1 + (k : Int)) < f0 := by have := HI.out.1; have := HI.out.2.2; have := HLEN.out; omega
            by_cases hg1 : (1 : Int) < f0
            · have hg2 : ¬ lsn < f0 := by have := HLF.out hg1; omega
              have HM := Lib.hid (show (ls.length : Int) = (k : Int) by have := HLEN.out; omega)
              go_upto_region 21 with (first
                | (go_at_call 25; (with_reducible refine HRET.out.mono ?_); rintro e5 w5 ⟨rfl, hw5⟩; have HW5 := Lib.hid hw5; clear hw5)
                | (go_at_call 18; (with_reducible refine (HSY.out _ HW5.out).mono ?_); rintro e6 w6 ⟨rfl, hw6⟩; have HW6 := Lib.hid hw6; clear hw6))
              go_upto_region 22 with (go_at_call 26; (with_reducible refine (HFI.out _ HW6.out).mono ?_); rintro e7 w7 ⟨rfl, hb7⟩; have HW7 := Lib.hid (HW6.out.below hb7); clear hb7)
              go_upto_region 24 with (go_at_call 23; (with_reducible refine (HNX.out _ HW7.out).mono ?_); rintro e8 w8 ⟨rfl, hb8⟩; have HW8 := Lib.hid (HW7.out.below hb8); clear hb8)
              go_upto_region 25 with (go_at_call 14; (with_reducible refine (HOP.out _ HW8.out).mono ?_); rintro e9 w9 ⟨p2, v2, st3, g3, rfl, hw9, hov, hop⟩; have HW9 := Lib.hid hw9; have HOV := Lib.hid hov; have HO3 := Lib.hid hop; clear hw9 hov hop)
              obtain ⟨a2, c2, ev2, hrw2⟩ := HOV.out.rws
              subst ev2
              obtain ⟨n2, hn2⟩ : ∃ z, (recsOf T ++ rl).length = z := ⟨_, rfl⟩
              rw [hn2] at hrw2 ⊢
              clear hn2
              have HRW2 := Lib.hid hrw2
              clear hrw2
              have HFI2 := Lib.hid (fun (W : World) (hw : Wg W0 dq p2 st3 g3 W) => wg_first hw (HO3.out.B.trans HFR.out))
              have HNX2 := Lib.hid (fun (W : World) (hw : Wg W0 dq p2 st3 g3 W) => (show Calls Tryz.prog 23 #[.pointer (some ⟨p2, 0, none⟩)] W (Tells (.int .i64 (1 + (k : Int))) W) from by
                have h9 := wg_next hw
                rw [HO3.out.next, HNB.out] at h9
                exact h9))
              have HKS := Lib.hid (show k ≤ 1000 by have h8 := cost_frames _ HC.out; have h9 := HC.out; have := HLEN.out; omega)
              have hk1 : IntKind.i64.wrap ((k : Int) + 1) = 1 + (k : Int) := by have := HKS.out; rw [IntKind.wrap_i64]; omega
              have hf3 : IntKind.i64.wrap (f0 - 1) = (fn : Int) := by have := HI.out.1; have := HI.out.2.2; have := HLEN.out; have := HKS.out; rw [IntKind.wrap_i64]; omega
              have hfc : (fn : Int) ≤ (k : Int) := by have := HI.out.2.2; have := HLEN.out; omega
              have HSM1 := Lib.hid (fun (W : World) (hb2 : Below w9.heap.size w9 W) (hb0 : Below W0.heap.size W0 W) => (show Calls Tryz.prog 22 #[.slice a2 n2 c2, .slice (Option.map (fun x => x.add fn) a) (k - fn) (cap - fn)] W (BoolPost true W) from by
                have h9 := same_c (HRW2.out.below hb2) ((HL0.out.below hb0).dropO (k := fn) (by have := HI.out.2.2; have := HLEN.out; omega))
                rw [decide_eq_true HI.out.2.1.symm] at h9
                exact h9))
              have HSM2 := Lib.hid (fun (W : World) (hb2 : Below w9.heap.size w9 W) (hb0 : Below W0.heap.size W0 W) (hz : cap ≤ fn) => (show Calls Tryz.prog 22 #[.slice a2 n2 c2, .slice a (k - fn) 0] W (BoolPost true W) from by
                have h9 := same_c (HRW2.out.below hb2) ((HL0.out.below hb0).dropZ (k := fn) (by have := HI.out.2.2; have := HLEN.out; omega) hz)
                rw [decide_eq_true HI.out.2.1.symm] at h9
                exact h9))
              go_wp2_with (first
                | (go_at_call 26; (with_reducible refine (HFI2.out _ HW9.out).mono ?_); rintro e10 w10 ⟨rfl, hb10⟩; have HW10 := Lib.hid (HW9.out.below hb10); have HB10 := Lib.hid hb10; clear hb10)
                | (go_at_call 23; (with_reducible refine (HNX2.out _ HW10.out).mono ?_); rintro e11 w11 ⟨rfl, hb11⟩; have HW11 := Lib.hid (HW10.out.below hb11); have HB11 := Lib.hid (HB10.out.trans (hb11.mono HB10.out.size)); clear hb11)
                | (go_at_call 22; (with_reducible refine (HSM1.out _ HB11.out HW11.out.b).mono ?_); rintro e12 w12 ⟨rfl, hb12⟩; have HW12 := Lib.hid (HW11.out.below hb12); clear hb12)
                | (go_at_call 22; (with_reducible refine (HSM2.out _ HB11.out HW11.out.b (by omega)).mono ?_); rintro e12 w12 ⟨rfl, hb12⟩; have HW12 := Lib.hid (HW11.out.below hb12); clear hb12)
                | (go_at_call 10; (with_reducible refine (HLV0.out _ HW12.out.b).mono ?_); rintro e13 w13 ⟨rfl, hb13⟩; have HBZ := Lib.hid (HB.out.trans ((HW12.out.b.trans (hb13.mono HW12.out.b.size)).mono HB.out.size)); clear hb13))
              all_goals
                go_ret
                exact ⟨rfl, HBZ.out⟩
            · have hg3 : ¬ (1 : Int) < f0 := hg1
              have HM := Lib.hid (show (ls.length : Int) = (k : Int) by have := HLEN.out; omega)
              go_upto_region 21 with (first
                | (go_at_call 25; (with_reducible refine HRET.out.mono ?_); rintro e5 w5 ⟨rfl, hw5⟩; have HW5 := Lib.hid hw5; clear hw5)
                | (go_at_call 18; (with_reducible refine (HSY.out _ HW5.out).mono ?_); rintro e6 w6 ⟨rfl, hw6⟩; have HW6 := Lib.hid hw6; clear hw6))
              go_upto_region 22 with (go_at_call 26; (with_reducible refine (HFI.out _ HW6.out).mono ?_); rintro e7 w7 ⟨rfl, hb7⟩; have HW7 := Lib.hid (HW6.out.below hb7); clear hb7)
              go_upto_region 24 with (go_at_call 23; (with_reducible refine (HNX.out _ HW7.out).mono ?_); rintro e8 w8 ⟨rfl, hb8⟩; have HW8 := Lib.hid (HW7.out.below hb8); clear hb8)
              go_upto_region 25 with (go_at_call 14; (with_reducible refine (HOP.out _ HW8.out).mono ?_); rintro e9 w9 ⟨p2, v2, st3, g3, rfl, hw9, hov, hop⟩; have HW9 := Lib.hid hw9; have HOV := Lib.hid hov; have HO3 := Lib.hid hop; clear hw9 hov hop)
              obtain ⟨a2, c2, ev2, hrw2⟩ := HOV.out.rws
              subst ev2
              obtain ⟨n2, hn2⟩ : ∃ z, (recsOf T ++ rl).length = z := ⟨_, rfl⟩
              rw [hn2] at hrw2 ⊢
              clear hn2
              have HRW2 := Lib.hid hrw2
              clear hrw2
              have HFI2 := Lib.hid (fun (W : World) (hw : Wg W0 dq p2 st3 g3 W) => wg_first hw (HO3.out.B.trans HFR.out))
              have HNX2 := Lib.hid (fun (W : World) (hw : Wg W0 dq p2 st3 g3 W) => (show Calls Tryz.prog 23 #[.pointer (some ⟨p2, 0, none⟩)] W (Tells (.int .i64 (1 + (k : Int))) W) from by
                have h9 := wg_next hw
                rw [HO3.out.next, HNB.out] at h9
                exact h9))
              have HKS := Lib.hid (show k ≤ 1000 by have h8 := cost_frames _ HC.out; have h9 := HC.out; have := HLEN.out; omega)
              have hk1 : IntKind.i64.wrap ((k : Int) + 1) = 1 + (k : Int) := by have := HKS.out; rw [IntKind.wrap_i64]; omega
              have hf3 : IntKind.i64.wrap (f0 - 1) = (fn : Int) := by have := HI.out.1; have := HI.out.2.2; have := HLEN.out; have := HKS.out; rw [IntKind.wrap_i64]; omega
              have hfc : (fn : Int) ≤ (k : Int) := by have := HI.out.2.2; have := HLEN.out; omega
              have HSM1 := Lib.hid (fun (W : World) (hb2 : Below w9.heap.size w9 W) (hb0 : Below W0.heap.size W0 W) => (show Calls Tryz.prog 22 #[.slice a2 n2 c2, .slice (Option.map (fun x => x.add fn) a) (k - fn) (cap - fn)] W (BoolPost true W) from by
                have h9 := same_c (HRW2.out.below hb2) ((HL0.out.below hb0).dropO (k := fn) (by have := HI.out.2.2; have := HLEN.out; omega))
                rw [decide_eq_true HI.out.2.1.symm] at h9
                exact h9))
              have HSM2 := Lib.hid (fun (W : World) (hb2 : Below w9.heap.size w9 W) (hb0 : Below W0.heap.size W0 W) (hz : cap ≤ fn) => (show Calls Tryz.prog 22 #[.slice a2 n2 c2, .slice a (k - fn) 0] W (BoolPost true W) from by
                have h9 := same_c (HRW2.out.below hb2) ((HL0.out.below hb0).dropZ (k := fn) (by have := HI.out.2.2; have := HLEN.out; omega) hz)
                rw [decide_eq_true HI.out.2.1.symm] at h9
                exact h9))
              go_wp2_with (first
                | (go_at_call 26; (with_reducible refine (HFI2.out _ HW9.out).mono ?_); rintro e10 w10 ⟨rfl, hb10⟩; have HW10 := Lib.hid (HW9.out.below hb10); have HB10 := Lib.hid hb10; clear hb10)
                | (go_at_call 23; (with_reducible refine (HNX2.out _ HW10.out).mono ?_); rintro e11 w11 ⟨rfl, hb11⟩; have HW11 := Lib.hid (HW10.out.below hb11); have HB11 := Lib.hid (HB10.out.trans (hb11.mono HB10.out.size)); clear hb11)
                | (go_at_call 22; (with_reducible refine (HSM1.out _ HB11.out HW11.out.b).mono ?_); rintro e12 w12 ⟨rfl, hb12⟩; have HW12 := Lib.hid (HW11.out.below hb12); clear hb12)
                | (go_at_call 22; (with_reducible refine (HSM2.out _ HB11.out HW11.out.b (by omega)).mono ?_); rintro e12 w12 ⟨rfl, hb12⟩; have HW12 := Lib.hid (HW11.out.below hb12); clear hb12)
                | (go_at_call 10; (with_reducible refine (HLV0.out _ HW12.out.b).mono ?_); rintro e13 w13 ⟨rfl, hb13⟩; have HBZ := Lib.hid (HB.out.trans ((HW12.out.b.trans (hb13.mono HW12.out.b.size)).mono HB.out.size)); clear hb13))
              all_goals
                go_ret
                exact ⟨rfl, HBZ.out⟩
end Go.Proofs.YtioeimkaljmffaaGreatDoor
end

section
namespace Go.Proofs.YtioeimkaljmffaaGreatDoor
open Go.RowKit Go Go.Sort Go.Deep
set_option linter.unusedVariables false
set_option maxRecDepth 20000

/-- An act: kind, bytes, name, number, what is kept. -/
structure Ac where
  kd : Int
  nm : List UInt8
  v : Value
  l : List UInt8
  n : Int
  kp : Int
def Ac.zero : Ac := ⟨0, [], .slice none 0 0, [], 0, 0⟩
def Ac.arr (a : Ac) : Array Value := #[.int .i64 a.kd, a.v, .string (text a.nm), .int .i64 a.n, .int .i64 a.kp]
theorem ac_size (a : Ac) : a.arr.size = 5 := rfl
theorem trod_wact {H : Type} {enc : TypeId × Value → H} {W : World} {fuel : Nat} {cs : List Value} {x : DataW H × List MemPlace} (h : DataW.trod enc Tryz.prog W 0 (fun _ => true) true fuel 36 cs = some x) :
    ∃ (q : Ac) (a : Option Addr) (cap : Nat), cs = q.arr.toList ∧ q.v = .slice a q.l.length cap ∧ q.nm.length ≤ 9223372036854775807 ∧ Bys W a q.l.length cap q.l ∧ (-9223372036854775808 ≤ q.n ∧ q.n ≤ 9223372036854775807) := by
  obtain ⟨xs, m, _, rfl, hl, hlen, hf⟩ := DataW.trod_struct Tryz.underlying36 h
  have h5 : Tryz.prog.cellsOf 36 = 5 := by kernel_rfl
  have h9 : Tryz.prog.cellsOf 9 = 1 := by kernel_rfl
  have h3 : Tryz.prog.cellsOf 3 = 1 := by kernel_rfl
  have h2 : Tryz.prog.cellsOf 34 = 1 := by kernel_rfl
  rw [h5] at hl
  match xs, hlen with
  | [y0, y1, y2, y3, y4], _ =>
    have i0 := hf 0 _ rfl
    have i1 := hf 1 _ rfl
    have i2 := hf 2 _ rfl
    have i3 := hf 3 _ rfl
    have i4 := hf 4 _ rfl
    match cs, hl with
    | [c0, c1, c2, c3, c4], _ =>
      have j0 : DataW.trod enc Tryz.prog W 0 (fun _ => true) true m 3 (([c0, c1, c2, c3, c4].drop 0).take (Tryz.prog.cellsOf 3)) = some y0 := i0
      have j1 : DataW.trod enc Tryz.prog W 0 (fun _ => true) true m 34 (([c0, c1, c2, c3, c4].drop 1).take (Tryz.prog.cellsOf 34)) = some y1 := i1
      have j2 : DataW.trod enc Tryz.prog W 0 (fun _ => true) true m 9 (([c0, c1, c2, c3, c4].drop 2).take (Tryz.prog.cellsOf 9)) = some y2 := i2
      have j3 : DataW.trod enc Tryz.prog W 0 (fun _ => true) true m 3 (([c0, c1, c2, c3, c4].drop 3).take (Tryz.prog.cellsOf 3)) = some y3 := i3
      have j4 : DataW.trod enc Tryz.prog W 0 (fun _ => true) true m 3 (([c0, c1, c2, c3, c4].drop 4).take (Tryz.prog.cellsOf 3)) = some y4 := i4
      rw [h3] at j0 j3 j4
      rw [h9] at j2
      rw [h2] at j1
      obtain ⟨kd, e0, -⟩ := DataW.trod_int Tryz.underlying3 j0
      obtain ⟨s, e1, _, w1⟩ := DataW.trod_string Tryz.underlying9 j2
      obtain ⟨n, e3, _, hn⟩ := DataW.trod_int Tryz.underlying3 j3
      obtain ⟨kp, e4, -⟩ := DataW.trod_int Tryz.underlying3 j4
      have hv : ∃ a len cap, c1 = .slice a len cap := by
        rcases open_slice Tryz.underlying34 j1 with ⟨hcs, hx⟩ | ⟨x, l, c, m, n, D, Pl, hcs, _⟩
        · simp at hcs; exact ⟨_, _, _, hcs⟩
        · simp at hcs; exact ⟨_, _, _, hcs⟩
      obtain ⟨a, len, cap, rfl⟩ := hv
      obtain ⟨l, hb⟩ := bys_of_open (d := y1.1) (p := y1.2) (W := W) (enc := enc) (a := a) (len := len) (cap := cap) ⟨m, j1⟩
      simp at e0 e1 e3 e4
      subst e0 e1 e3 e4
      obtain rfl := hb.len
      exact ⟨⟨kd, s.data.toList, .slice a l.length cap, l, n, kp⟩, a, cap, rfl, rfl, (by
        have hw2 : s.data.toList.length ≤ maxLen := by simpa using w1
        unfold maxLen at hw2
        exact hw2), hb, by simpa [Lit.wf, IntKind.min, IntKind.max, IntKind.signed, IntKind.bits] using hn⟩
theorem open_wact {H : Type} {enc : TypeId × Value → H} {W : World} {base : Nat} {v : Value} {x : DataW H} {p : List MemPlace} (hv : Value.okWide Tryz.prog W .any base 36 v)
    (h : DataW.Trod enc Tryz.prog W 0 (fun _ => true) true 36 v x p) : ∃ (q : Ac) (a : Option Addr) (cap : Nat), v = .agg #[.int .i64 q.kd, .slice a q.l.length cap, .string (text q.nm), .int .i64 q.n, .int .i64 q.kp] := by
  simp only [Value.okWide, Tryz.underlying36] at hv
  obtain ⟨cs, rfl, hs, _⟩ := hv
  obtain ⟨m, hm⟩ := h
  obtain ⟨q, a, cap, hc, hu, -, -, -⟩ := trod_wact hm
  refine ⟨q, a, cap, ?_⟩
  congr 1
  apply Array.toList_inj.1
  refine Eq.trans (show cs.toList = q.arr.toList from hc) ?_
  unfold Ac.arr
  rw [hu]
/-- Acts that lie in memory, each with its bytes. -/
structure Acs (w : World) (a : Option Addr) (n cap : Nat) (L : List Ac) : Prop where
  len : L.length = n
  le : n ≤ cap
  max : cap ≤ 9223372036854775807
  adr : cap = 0 ∨ ∃ b off, a = some ⟨b, off, none⟩ ∧ ∀ i, i < n → ∀ j u, (L.getD i Ac.zero).arr[j]? = some u → w.cell? ⟨b, off + i * 5 + j, none⟩ = some u
  dat : ∀ i, i < n → ∃ x c, (L.getD i Ac.zero).v = .slice x (L.getD i Ac.zero).l.length c ∧ Bys w x (L.getD i Ac.zero).l.length c (L.getD i Ac.zero).l ∧ (L.getD i Ac.zero).nm.length ≤ 9223372036854775807 ∧ (-9223372036854775808 ≤ (L.getD i Ac.zero).n ∧ (L.getD i Ac.zero).n ≤ 9223372036854775807)
theorem Acs.below {w w' : World} {a : Option Addr} {n cap : Nat} {L : List Ac} (h : Acs w a n cap L) (hb : Below w.heap.size w w') : Acs w' a n cap L := by
  refine ⟨h.len, h.le, h.max, ?_, fun i hi => by obtain ⟨x, c, e, hy, hr⟩ := h.dat i hi; exact ⟨x, c, e, hy.below hb, hr⟩⟩
  rcases h.adr with h4 | ⟨b, off, rfl, hc⟩
  · exact .inl h4
  · exact .inr ⟨b, off, rfl, fun i hi j u hj => (hb.cell (World.block_lt_of_cell? w _ (hc i hi j u hj))).trans (hc i hi j u hj)⟩
theorem open_wacts {H : Type} {enc : TypeId × Value → H} {W : World} {a : Option Addr} {len cap : Nat} {d : DataW H} {p : List MemPlace} (h : DataW.Trod enc Tryz.prog W 0 (fun _ => true) true 22 (.slice a len cap) d p) :
    ∃ l, Acs W a len cap l := by
  have hc : Tryz.prog.cellsOf 36 = 5 := by kernel_rfl
  obtain ⟨fuel, hf⟩ := h
  rcases open_slice Tryz.underlying22 hf with ⟨hcs, hx⟩ | ⟨x, l, c, m, n, D, Pl, hcs, _, hl, hm, hmm, hx, hcell⟩
  · simp [Value.cells] at hcs
    obtain ⟨rfl, rfl, rfl⟩ := hcs
    exact ⟨[], ⟨rfl, Nat.le_refl _, by omega, .inl rfl, fun j hj => by omega⟩⟩
  · simp [Value.cells] at hcs
    obtain ⟨rfl, rfl, rfl⟩ := hcs
    simp only [if_true] at hmm
    subst hmm
    rw [hc] at hcell
    have key : ∀ i, i < m → ∃ q : Ac, (∀ j u, q.arr[j]? = some u → W.cell? ((x.add (i * 5)).add j) = some u) ∧ (∃ a' c, q.v = .slice a' q.l.length c ∧ Bys W a' q.l.length c q.l ∧ q.nm.length ≤ 9223372036854775807 ∧ (-9223372036854775808 ≤ q.n ∧ q.n ≤ 9223372036854775807)) := by
      intro i hi
      obtain ⟨cs', h1, h2⟩ := hcell i hi
      obtain ⟨_, h3l, h3⟩ := World.cells?_some h1
      obtain ⟨q, ad, cap', rfl, hu, hk, hw, hnn⟩ := trod_wact h2
      refine ⟨q, fun j u hj => ?_, ad, cap', hu, hw, hk, hnn⟩
      have hjl : j < 5 := by
        have := (Array.getElem?_eq_some_iff.1 hj).1
        rwa [ac_size] at this
      have h4 := h3 j hjl
      rw [h4]
      rw [← hj]
      simp
    haveI : Inhabited Ac := ⟨Ac.zero⟩
    obtain ⟨V, hV⟩ := choose_lt (α := Ac) (p := fun i q => (∀ j u, q.arr[j]? = some u → W.cell? ((x.add (i * 5)).add j) = some u) ∧ (∃ a' c, q.v = .slice a' q.l.length c ∧ Bys W a' q.l.length c q.l ∧ q.nm.length ≤ 9223372036854775807 ∧ (-9223372036854775808 ≤ q.n ∧ q.n ≤ 9223372036854775807))) key
    have hgd : ∀ i, i < len → ((List.range len).map V).getD i Ac.zero = V i := fun i hi => by simp [List.getD, hi]
    refine ⟨(List.range len).map V, ⟨by simp, hl, by unfold maxLen at hm; omega, ?_, ?_⟩⟩
    · by_cases hz : m = 0
      · exact .inl hz
      · right
        obtain ⟨b, off, spot⟩ := x
        have h0 := (hV 0 (by omega)).1 0 _ rfl
        have hspot : spot = none := by simpa [Addr.add] using World.cell?_spot h0
        subst hspot
        refine ⟨b, off, rfl, fun i hi j u hj => ?_⟩
        rw [hgd i hi] at hj
        have hq := (hV i (by omega)).1
        have e1 : (⟨b, off, none⟩ : Addr).add (i * 5) = ⟨b, off + i * 5, none⟩ := by
          by_cases h0 : i * 5 = 0
          · rw [h0]; rfl
          · simp [Addr.add, h0]
        rw [e1] at hq
        have e2 : (⟨b, off + i * 5, none⟩ : Addr).add j = ⟨b, off + i * 5 + j, none⟩ := by
          by_cases h0 : j = 0
          · subst h0; rfl
          · simp [Addr.add, h0]
        have h5 := hq j u hj
        rw [e2] at h5
        exact h5
    · intro i hi
      have h9 := (hV i (by omega)).2
      rwa [hgd i hi]
theorem Acs.place {w : World} {a : Option Addr} {n cap : Nat} {L : List Ac} (h : Acs w a n cap L) {k : Nat} (hk : k < n) :
    ∃ b off x c, a = some ⟨b, off, none⟩ ∧ Bys w x (L.getD k Ac.zero).l.length c (L.getD k Ac.zero).l ∧ (L.getD k Ac.zero).nm.length ≤ 9223372036854775807 ∧ (-9223372036854775808 ≤ (L.getD k Ac.zero).n ∧ (L.getD k Ac.zero).n ≤ 9223372036854775807) ∧
      ∀ W', Below w.heap.size w W' → W'.cell? ⟨b, off + k * 5, none⟩ = some (.int .i64 (L.getD k Ac.zero).kd) ∧ W'.cell? ⟨b, off + k * 5 + 1, none⟩ = some (.slice x (L.getD k Ac.zero).l.length c) ∧ W'.cell? ⟨b, off + k * 5 + 2, none⟩ = some (.string (text (L.getD k Ac.zero).nm)) ∧ W'.cell? ⟨b, off + k * 5 + 3, none⟩ = some (.int .i64 (L.getD k Ac.zero).n) ∧ W'.cell? ⟨b, off + k * 5 + 4, none⟩ = some (.int .i64 (L.getD k Ac.zero).kp) := by
  obtain ⟨x, c, ev, hy, hnm, hnn⟩ := h.dat k hk
  have hle := h.le
  rcases h.adr with h4 | ⟨b, off, rfl, hc⟩
  · omega
  · refine ⟨b, off, x, c, rfl, hy, hnm, hnn, fun W' hb => ?_⟩
    have H := fun j u (hj : (L.getD k Ac.zero).arr[j]? = some u) => (hb.cell (World.block_lt_of_cell? w _ (hc k hk j u hj))).trans (hc k hk j u hj)
    exact ⟨H 0 _ rfl, (H 1 (L.getD k Ac.zero).v rfl).trans (by rw [ev]), H 2 _ rfl, H 3 _ rfl, H 4 _ rfl⟩
theorem text_sizeK (s : List UInt8) : (text s).size = s.length := by simp [text, ByteArray.size]
theorem takeAc_snoc {l : List Ac} {i : Nat} (hi : i < l.length) : l.take (i + 1) = l.take i ++ [l.getD i Ac.zero] := take_snoc hi
/-- What acts cost. -/
def costA (L : List Ac) : Nat := (L.map fun x => 50 + x.l.length).sum
theorem costA_snoc (L : List Ac) (x : Ac) : costA (L ++ [x]) = costA L + (50 + x.l.length) := by simp [costA]
set_option maxRecDepth 100000 in
set_option maxHeartbeats 6400000 in
theorem wlight_c {w : World} {a : Option Addr} {n cap : Nat} {L : List Ac} (hl : Acs w a n cap L) :
    Calls Tryz.prog 9 #[.slice a n cap] w (fun e w' => ∃ b : Bool, e = .returned (.bool b) ∧ (b = true → costA L ≤ 10000) ∧ Below w.heap.size w w') := by
  have hle := hl.le
  have hmax := hl.max
  have HLL := Lib.hid hl.len
  have HL := Lib.hid hl
  clear hl
  go_enter Tryz.func9, Tryz.ntmps9
  go_wp2
  go_loopw [3, 4] (fun v i9 wr => ∃ (i q : Nat), i ≤ n ∧ i9 = .int .i64 (i : Int) ∧ v = .int .i64 (q : Int) ∧ q ≤ 10001 ∧ (q ≤ 10000 → costA (L.take i) ≤ q) ∧ Below w.heap.size w wr) (fun _ i9 _ => n - (intOf i9).toNat)
  case atStart => exact ⟨0, 0, by omega, rfl, rfl, by omega, fun _ => by simp [costA], Below.refl _ _⟩
  case round =>
    obtain ⟨i, q, hi, rfl, rfl, hq, hlo, hB⟩ := hrel
    have HB := Lib.hid hB
    have HLO := Lib.hid hlo
    clear hB hlo
    by_cases hlt : i < n
    · have hii : (i : Int) < (n : Int) := by omega
      have hic : (i : Int) < (cap : Int) := by omega
      by_cases hf : 10000 < q
      · have hfi : ¬ (q : Int) ≤ 10000 := by omega
        go_wp2
        go_ret
        exact .inl ⟨rfl, HB.out⟩
      · have hfi : (q : Int) ≤ 10000 := by omega
        obtain ⟨b, off, xa, ca, rfl, hy, hk1, hnn, hat⟩ := HL.out.place hlt
        obtain ⟨-, c1, c2, -, -⟩ := hat _ HB.out
        have htk := takeAc_snoc (l := L) (i := i) (by have := HLL.out; omega)
        obtain ⟨A, hA⟩ : ∃ z, L.getD i Ac.zero = z := ⟨_, rfl⟩
        rw [hA] at c1 c2 hk1 htk hy
        have hym := hy.max
        have hyl := hy.le
        have hml : A.l.length ≤ 9223372036854775807 := by omega
        obtain ⟨k, hk⟩ : ∃ z, A.nm.length = z := ⟨_, rfl⟩
        obtain ⟨m, hm⟩ : ∃ z, A.l.length = z := ⟨_, rfl⟩
        rw [hk] at hk1
        rw [hm] at c1 hyl hml
        have HT := Lib.hid (show satB (satB (satB q 50) m) k ≤ 10000 → costA (L.take (i + 1)) ≤ satB (satB (satB q 50) m) k from fun h => by
          obtain ⟨e3, h3⟩ := satB_fits h
          obtain ⟨e2, h2⟩ := satB_fits (n := satB q 50) (k := m) (by omega)
          obtain ⟨e1, h1⟩ := satB_fits (n := q) (k := 50) (by omega)
          have h9 := HLO.out (by omega)
          rw [htk, costA_snoc]
          omega)
        have hsz : ((text A.nm).size : Int) = (k : Int) := by rw [text_sizeK, hk]
        obtain ⟨tx, htx⟩ : ∃ s, text A.nm = s := ⟨_, rfl⟩
        rw [htx] at c2 hsz
        have HA0 := Lib.hid (fun (d : Nat) (os : Array Obj) => (show Calls Tryz.prog 24 #[.int .i64 (q : Int), .int .i64 50, .int .i64 10000] (grow (redrawn wr d) os) _ from radd10_t q 50 hq (by omega) _).regrown_of)
        have HA1 := Lib.hid (fun (d : Nat) (os : Array Obj) => (radd10_t (satB q 50) m (satB_le _ _) hml (grow (redrawn wr d) os)).regrown_of)
        have HA2 := Lib.hid (fun (d : Nat) (os : Array Obj) => (radd10_t (satB (satB q 50) m) k (satB_le _ _) hk1 (grow (redrawn wr d) os)).regrown_of)
        have k1 := cell_regrown c1
        have k2 := cell_regrown c2
        clear c1 c2 hA hk hm hy htx htk hat hnn
        go_upto_region 5 with (fail)
        refine wp_region_quiet_below (by kernel_rfl) (by kernel_rfl) ?_
        repeat (go_big_quiet_step (first
          | with_reducible exact HA0.out _ _
          | with_reducible exact HA1.out _ _
          | with_reducible exact HA2.out _ _))
        refine wpQuiet_nil ?_
        intro _ hw'
        obtain ⟨⟨dq5, osq5⟩, hw''⟩ := hw'
        subst hw''
        have HBQ := Lib.hid (below_regrown wr dq5 osq5)
        clear k1 k2
        go_wp2
        go_roundw
        case rel => exact ⟨i + 1, satB (satB (satB q 50) m) k, by omega, by go_num, rfl, satB_le _ _, HT.out, HB.out.trans (HBQ.out.mono HB.out.size)⟩
        case measure => simp [intOf]; omega
    · obtain rfl : i = n := by omega
      go_wp2
      go_ret
      refine ⟨_, rfl, fun h => ?_, HB.out⟩
      have h9 : (q : Int) ≤ 10000 := by simpa using h
      have := HLO.out (by omega)
      rw [List.take_of_length_le (by have := HLL.out; omega)] at this
      omega
end Go.Proofs.YtioeimkaljmffaaGreatDoor
end

section
namespace Go.Proofs.YtioeimkaljmffaaGreatDoor
open Go.RowKit
set_option maxRecDepth 100000

theorem gES : Tryz.prog.globalNamed "strconv.ErrSyntax" = some 0 := by kernel_rfl
theorem gER : Tryz.prog.globalNamed "strconv.ErrRange" = some 1 := by kernel_rfl
theorem gESType : (Tryz.prog.globals[0]?).map (·.type) = some 109 := by kernel_rfl
theorem gERType : (Tryz.prog.globals[1]?).map (·.type) = some 109 := by kernel_rfl
theorem cellsES : Tryz.prog.cellsOf 211 = 1 := by kernel_rfl
theorem cellsStr : Tryz.prog.cellsOf 9 = 1 := by kernel_rfl
theorem starES : "*" ++ "errors.errorString" = "*errors.errorString" := by decide
theorem rowES (u : TypeId) (h : Tryz.prog.typeName? 3 u = some "*errors.errorString") : u = 209 :=
  typeName_ptr_named (nm := "errors.errorString") (by rw [starES]; kernel_rfl) (by kernel_rfl) (by decide) u (by rw [starES]; exact h)

theorem tabE_of_laid {W : World} (h1 : laidMet Tryz.prog [("math/bits.deBruijn32tab", Rows.laid_math_bits_deBruijn32tab), ("math/bits.deBruijn64tab", Rows.laid_math_bits_deBruijn64tab), ("internal/strconv.uint64pow10", Rows.laid_internal_strconv_uint64pow10), ("strconv.ErrRange", Rows.laid_strconv_ErrRange), ("strconv.ErrSyntax", Rows.laid_strconv_ErrSyntax)] W) : TabE W := by
  have h2 := h1.tail
  have h3 := h2.tail
  have h4 := h3.tail
  have h5 := h4.tail
  have T : Lib.TabIs Tryz.prog W "math/bits.deBruijn64tab" .u8 tab64 := Lib.tabIs_of_head (rest := [("internal/strconv.uint64pow10", Rows.laid_internal_strconv_uint64pow10), ("strconv.ErrRange", Rows.laid_strconv_ErrRange), ("strconv.ErrSyntax", Rows.laid_strconv_ErrSyntax)]) gTab gTabType Tryz.underlying214 Tryz.underlying5 cells5 cells48 h2
  have T2 : Lib.TabIs Tryz.prog W "internal/strconv.uint64pow10" .u64 powZ := Lib.tabIs_of_head (rest := [("strconv.ErrRange", Rows.laid_strconv_ErrRange), ("strconv.ErrSyntax", Rows.laid_strconv_ErrSyntax)]) gPow gPowType Tryz.underlying203 Tryz.underlying155 cellsU64 cells20 h3
  rw [powZ_eq] at T2
  obtain ⟨a0, s0, hv0, -, -, -⟩ := laid_sentinel h4 gER gERType Tryz.underlying109 rowES Tryz.underlying209 Tryz.underlying211 rfl rfl Tryz.underlying9 cellsES cellsStr
  obtain ⟨a1, s1, hv1, -, -, -⟩ := laid_sentinel h5 gES gESType Tryz.underlying109 rowES Tryz.underlying209 Tryz.underlying211 rfl rfl Tryz.underlying9 cellsES cellsStr
  refine ⟨⟨⟨T.cell gTab 0 (by decide), T.cell gTab 1 (by decide), T.cell gTab 3 (by decide), T.cell gTab 7 (by decide)⟩, T2⟩, ⟨_, by have h0 := World.var?_cell gES hv1 0; simpa using h0, .inr ⟨_, _, rfl⟩⟩, ⟨_, by have h0 := World.var?_cell gER hv0 0; simpa using h0, .inr ⟨_, _, rfl⟩⟩⟩

/-- So many blocks has the settled world. -/
noncomputable def lowE : Nat := (World.holding Tryz.prog default ⟨#[], #[], []⟩).heap.size
/-- A world for the witness. -/
noncomputable def laidWorldE (os : Os) : World :=
  let w0 := World.holding Tryz.prog os ⟨#[.cells #[.string ⟨#[118, 97, 108, 117, 101, 32, 111, 117, 116, 32, 111, 102, 32, 114, 97, 110, 103, 101]⟩] 211, .cells #[.string ⟨#[105, 110, 118, 97, 108, 105, 100, 32, 115, 121, 110, 116, 97, 120]⟩] 211], #[], []⟩
  { w0 with
    heap := ((((w0.heap.modify 4 (fun o => match o with
      | .cells _ t frozen => .cells (tab32.map (Value.int .u8)).toArray t frozen
      | o => o)).modify 5 (fun o => match o with
      | .cells _ t frozen => .cells (tab64.map (Value.int .u8)).toArray t frozen
      | o => o)).modify 2 (fun o => match o with
      | .cells _ t frozen => .cells (powZ.map (Value.int .u64)).toArray t frozen
      | o => o)).modify 1 (fun o => match o with
      | .cells _ t frozen => .cells #[.iface 209 (.pointer (some ⟨lowE, 0, none⟩))] t frozen
      | o => o)).modify 0 (fun o => match o with
      | .cells _ t frozen => .cells #[.iface 209 (.pointer (some ⟨lowE + 1, 0, none⟩))] t frozen
      | o => o) }
end Go.Proofs.YtioeimkaljmffaaGreatDoor
end

