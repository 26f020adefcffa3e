/-
  Merged: E4 E9 G1 G2.
-/
import Derived.Deep.QuietTactic
import Derived.StillTail
import Derived.Lib.QuietBelow
import Derived.Test.YtjkifdjjcfempaaDoorRows
import Derived.WalkKit
import Derived.Lib.Hide
import Derived.BigQuiet
import Derived.BigRegion
import Derived.Deep.Cut
import Derived.Deep.MidRow
import Derived.Great.BuildSlice
import Derived.Outline
import Derived.OwnWalk
import Derived.Laws.Rows
import Derived.ChangeKeysEq
import Derived.Laws.StructEq
import Derived.WalkSpells
import Derived.WalkLawsBesides
import Derived.Laws.CopyOwn
import Derived.WalkSmall
import Derived.Lib.LaidTab
import Derived.Deep.RegionWith
import Derived.Lib.MinMax
import Derived.WideShapes
import Derived.ChangeSame
import Derived.OpenShut
import Derived.Deep.Slices
import Derived.Deep.AppendSrc
import Derived.Lib.AppendZerosOnto
import Derived.Lib.SliceRun
import Derived.Lib.Walk
import Derived.Lib.OthersKept
import Derived.Laws.RangeAny
import Derived.Maps.OwnOps
import Derived.Maps.Views
import Derived.ChangeSlices
import Derived.ChangeArms
import Derived.OrdersIn
import Derived.TacticsIn
import Derived.RangeFuncNested
import Derived.RangeFuncBound
import Derived.RangeFuncCalls
import Derived.RangeFuncLeaves
import Derived.Deep.DeepAppendWide
import Derived.Maps.AppendAt
import Derived.Shelf.Abstract
import Derived.OwnWalkIn
import Derived.TacticsInMore
import Derived.LoopNIn
import Derived.LoopIn
import Derived.DeepKeys4
import Derived.Maps.Own
import Derived.Maps.Range
import Derived.Sort.Grow
import Derived.Shelf.SlSortCmp.WholeK
import Derived.Stop.LaidErr
import Derived.Test.YtjkifdjjcfempaaDoorSC1

section
namespace Go.Proofs.YtjkifdjjcfempaaDoor
open Go.RowKit Go Go.Sort
set_option linter.unusedVariables false
set_option maxRecDepth 20000

/-- One round of the insertion: what is ahead stays, the new one goes before the first that isn't, what is of its place goes. -/
def cstep (x : Wr) (st : List Wr × Bool) (o : Wr) : List Wr × Bool :=
  let a := if (!st.2 && !aheadS o x) = true then (st.1 ++ [x], true) else st
  if (aheadS o x || aheadS x o) = true then (a.1 ++ [o], a.2) else a
def cN (x : Wr) (O : List Wr) : Nat → List Wr × Bool
  | 0 => ([], false)
  | k + 1 => cstep x (cN x O k) (O.getD k Wr.zero)
def cinsS (x : Wr) (O : List Wr) : List Wr := if (cN x O O.length).2 = true then (cN x O O.length).1 else (cN x O O.length).1 ++ [x]
def canonN (l : List Wr) : Nat → List Wr
  | 0 => []
  | k + 1 => cinsS (l.getD k Wr.zero) (canonN l k)
def canonS (l : List Wr) : List Wr := canonN l l.length
theorem cN_few (x : Wr) (O : List Wr) : ∀ q, (cN x O q).1.length ≤ q + (if (cN x O q).2 = true then 1 else 0)
  | 0 => by simp [cN]
  | q + 1 => by
    have h := cN_few x O q
    show (cstep x (cN x O q) (O.getD q Wr.zero)).1.length ≤ q + 1 + (if (cstep x (cN x O q) (O.getD q Wr.zero)).2 = true then 1 else 0)
    unfold cstep
    cases h1 : (cN x O q).2 <;> cases h2 : aheadS (O.getD q Wr.zero) x <;> cases h3 : aheadS x (O.getD q Wr.zero) <;> simp [h1] at h ⊢ <;> omega
theorem cins_few (x : Wr) (O : List Wr) : (cinsS x O).length ≤ O.length + 1 := by
  have h := cN_few x O O.length
  unfold cinsS
  split
  · rename_i h1; rw [if_pos h1] at h; exact h
  · rename_i h1; rw [if_neg h1] at h; simp; omega
theorem canon_few (l : List Wr) : ∀ k, (canonN l k).length ≤ k
  | 0 => Nat.le_refl _
  | k + 1 => Nat.le_trans (cins_few _ _) (Nat.succ_le_succ (canon_few l k))
/-- Writes of a call's own. -/
def WrsPost (l : List Wr) (w : World) (e : Ending) (w' : World) : Prop := ∃ v, e = .returned v ∧ OwnW w' w.heap.size v l ∧ Below w.heap.size w w'

set_option maxRecDepth 100000 in
set_option maxHeartbeats 12800000 in
theorem rcanon_c {w : World} {x : Option Addr} {m cap : Nat} {l : List Wr} (hl : Wrs w x m cap l) (hm : m ≤ 1000000) : Calls Tryd.prog 9 #[.slice x m cap] w (WrsPost (canonS l) w) := by
  have hll := hl.len
  have hle := hl.le
  have hmax := hl.max
  have HL := Lib.hid hl
  have HCS := Lib.hid (show canonS l = canonN l m by unfold canonS; rw [hll])
  clear hl
  go_enter Tryd.func9, Tryd.ntmps9
  go_upto_region 3 with (fail)
  go_wp2
  go_loopw [3, 4] (fun o i wr => ∃ (k : Nat) (v : Value), k ≤ m ∧ i = .int .i64 (k : Int) ∧ o = v ∧ OwnW wr w.heap.size v (canonN l k) ∧ Below w.heap.size w wr) (fun _ i _ => m - (intOf i).toNat)
  case atStart => exact ⟨0, .slice none 0 0, by omega, rfl, rfl, OwnL.nil _ _ _, Below.refl _ _⟩
  case round =>
    obtain ⟨k, v, hk, rfl, rfl, ho, hb⟩ := hrel
    obtain ⟨W2, hW2⟩ : ∃ X, wr = X := ⟨_, rfl⟩
    rw [hW2] at ho hb ⊢
    clear hW2
    obtain ⟨O, hO⟩ : ∃ z, canonN l k = z := ⟨_, rfl⟩
    have hof := canon_few l k
    rw [hO] at ho hof
    have HOE := Lib.hid hO
    clear hO
    obtain ⟨ao, co, ev, hwo⟩ := OwnL.wrs ho
    obtain ⟨ol, hol⟩ : ∃ z, O.length = z := ⟨_, rfl⟩
    rw [hol] at ev hwo hof
    subst ev
    have HOL := Lib.hid hol
    have HO := Lib.hid ho
    have HWO := Lib.hid hwo
    have HB2 := Lib.hid hb
    have hole := hwo.le
    have holm := hwo.max
    clear hol ho hwo hb
    by_cases hlt : k < m
    · have hki : (k : Int) < (m : Int) := by omega
      have hkc : (k : Int) < (cap : Int) := by omega
      obtain ⟨bl, offl, rfl, hat⟩ := HL.out.place hlt
      have HCN1 := Lib.hid (show canonN l (k + 1) = cinsS (l.getD k Wr.zero) O by rw [← HOE.out]; rfl)
      obtain ⟨y, hy⟩ : ∃ y, l.getD k Wr.zero = y := ⟨_, rfl⟩
      rw [hy] at hat HCN1
      obtain ⟨kx, ix, gx, vx⟩ := y
      simp only at hat
      have HXW := Lib.hid (fun W (h : Below W2.heap.size W2 W) => hat W (HB2.out.trans (h.mono HB2.out.size)))
      clear hat hy
      go_upto_region 8 with (fail)
      go_loopw [5, 6, 7] (fun nx dn j wr => ∃ (q : Nat) (v : Value) (NN : List Wr) (DN : Bool), q ≤ ol ∧ j = .int .i64 (q : Int) ∧ nx = v ∧ dn = .bool DN ∧ cN ⟨kx, ix, gx, vx⟩ O q = (NN, DN) ∧ OwnW wr W2.heap.size v NN ∧ Below W2.heap.size W2 wr) (fun _ _ j _ => ol - (intOf j).toNat)
      case atStart => exact ⟨0, .slice none 0 0, [], false, by omega, rfl, rfl, rfl, rfl, OwnL.nil _ _ _, Below.refl _ _⟩
      case round =>
        obtain ⟨q, v, NN, DN, hq, rfl, rfl, rfl, hcn, hn, hbx⟩ := hrel
        have hnf := cN_few ⟨kx, ix, gx, vx⟩ O q
        rw [hcn] at hnf
        have hnf2 : NN.length ≤ q + 1 := by
          simp only at hnf
          cases DN <;> simp at hnf <;> omega
        clear hnf
        obtain ⟨an, cn, ev, -⟩ := OwnL.wrs hn
        obtain ⟨nl, hnl⟩ : ∃ z, NN.length = z := ⟨_, rfl⟩
        rw [hnl] at ev hnf2
        subst ev
        have HNE := Lib.hid hnl
        have HNL := Lib.hid (show nl ≤ q + 1 from hnf2)
        have HNx := Lib.hid hn
        have HBx := Lib.hid hbx
        have HCQ := Lib.hid hcn
        clear hnl hnf2 hn hbx hcn
        by_cases hlq : q < ol
        · have hqi : (q : Int) < (ol : Int) := by omega
          have hqc : (q : Int) < (co : Int) := by omega
          obtain ⟨bo, offo, rfl, hat⟩ := HWO.out.place hlq
          obtain ⟨y, hy⟩ : ∃ y, O.getD q Wr.zero = y := ⟨_, rfl⟩
          rw [hy] at hat
          obtain ⟨ko, io, go, vo⟩ := y
          simp only at hat
          have HOW := Lib.hid hat
          have hcs : cN ⟨kx, ix, gx, vx⟩ O (q + 1) = cstep ⟨kx, ix, gx, vx⟩ (NN, DN) ⟨ko, io, go, vo⟩ := by
            show cstep _ (cN ⟨kx, ix, gx, vx⟩ O q) (O.getD q Wr.zero) = _
            rw [HCQ.out, hy]
          unfold cstep at hcs
          have h1 := fun W => rahead_c ko io go vo kx ix gx vx W
          have h2 := fun W => rahead_c kx ix gx vx ko io go vo W
          obtain ⟨AOX, hA⟩ : ∃ z, aheadS ⟨ko, io, go, vo⟩ ⟨kx, ix, gx, vx⟩ = z := ⟨_, rfl⟩
          obtain ⟨AXO, hB⟩ : ∃ z, aheadS ⟨kx, ix, gx, vx⟩ ⟨ko, io, go, vo⟩ = z := ⟨_, rfl⟩
          rw [hA, hB] at hcs
          simp only [hA] at h1
          simp only [hB] at h2
          have HAOX := Lib.hid h1
          have HAXO := Lib.hid h2
          have HCN := Lib.hid hcs
          clear hat hy h1 h2 hA hB hcs HCQ
          go_upto_region 10 with (fail)
          cases DN with
          | true =>
            refine wp_region_flow [none,none,none,none,none,none,none,none,none,none,none,none,none,none,none,none,none,none,none,none, some 0, some 1, some 2, some 3, some 4, some 5, some 6, some 7, some 8, some 9, some 10, some 11, some 12, some 13, none,none,none,none,none,none,none,none,none,none,none,none,none,none,none,none,none,none,none,none,none,none,none,none,none,none,none,none,none,none,none,none,none,none,none,none,none,none,none,none,none,none,none,none,none] (fun i => [u20, u21, u22, u23, u24, u25, u26, u27, u28, u29, u30, u31, u32, u33].getD i undef) [(fun v _ => v = .bool true), (fun v _ => v = .bool false), (fun v _ => v = .bool false), (fun v _ => v = undef), (fun v _ => v = undef), (fun v _ => v = undef), (fun v _ => v = undef), (fun v _ => v = undef), (fun v _ => v = undef), (fun v _ => v = undef), (fun v _ => v = undef), (fun v _ => v = undef), (fun v _ => v = undef), (fun v _ => v = .bool false)] (by kernel_rfl) (by kernel_rfl) rfl rfl rfl ?_ ?_ ?_
            · intro g hg v X Y hX hY hv
              simp only [List.mem_cons, List.not_mem_nil, or_false] at hg
              rcases hg with rfl | rfl | rfl | rfl | rfl | rfl | rfl | rfl | rfl | rfl | rfl | rfl | rfl | rfl
              all_goals first
                | exact hv
                | exact hv.kept hY
            · simp only [flowOps, and_true]
              refine ⟨?_,?_,?_,?_,?_,?_,?_,?_,?_,?_,?_,?_,?_,?_⟩
              · intro xs W hW hn
                simp only [flowAct, zwc, zwn]
                go_wp2_with (fail)
                exact ⟨rfl, _, rfl, Below.refl _ _, rfl⟩
              · intro xs W hW hn
                simp [flowNeeds, Region.binds] at hn
                simp only [flowAct, zwc, zwn]
                try simp only [hn]
                go_wp2_with (fail)
                exact ⟨rfl, _, rfl, Below.refl _ _, rfl⟩
              · intro xs W hW hn
                simp [flowNeeds, Region.binds] at hn
                simp only [flowAct, zwc, zwn]
                try simp only [hn]
                go_wp2_with (fail)
                exact ⟨rfl, _, rfl, Below.refl _ _, rfl⟩
              · intro xs W hW hn
                simp [flowNeeds, Region.binds] at hn
                simp only [flowAct, zwc, zwn]
                try simp only [hn]
                go_wp2_with (fail)
                exact ⟨rfl, _, rfl, Below.refl _ _, rfl⟩
              · intro xs W hW hn
                simp [flowNeeds, Region.binds] at hn
                simp only [flowAct, zwc, zwn]
                try simp only [hn]
                go_wp2_with (fail)
                exact ⟨rfl, _, rfl, Below.refl _ _, rfl⟩
              · intro xs W hW hn
                simp [flowNeeds, Region.binds] at hn
                simp only [flowAct, zwc, zwn]
                try simp only [hn]
                go_wp2_with (fail)
                exact ⟨rfl, _, rfl, Below.refl _ _, rfl⟩
              · intro xs W hW hn
                simp [flowNeeds, Region.binds] at hn
                simp only [flowAct, zwc, zwn]
                try simp only [hn]
                go_wp2_with (fail)
                exact ⟨rfl, _, rfl, Below.refl _ _, rfl⟩
              · intro xs W hW hn
                simp [flowNeeds, Region.binds] at hn
                simp only [flowAct, zwc, zwn]
                try simp only [hn]
                go_wp2_with (fail)
                exact ⟨rfl, _, rfl, Below.refl _ _, rfl⟩
              · intro xs W hW hn
                simp [flowNeeds, Region.binds] at hn
                simp only [flowAct, zwc, zwn]
                try simp only [hn]
                go_wp2_with (fail)
                exact ⟨rfl, _, rfl, Below.refl _ _, rfl⟩
              · intro xs W hW hn
                simp [flowNeeds, Region.binds] at hn
                simp only [flowAct, zwc, zwn]
                try simp only [hn]
                go_wp2_with (fail)
                exact ⟨rfl, _, rfl, Below.refl _ _, rfl⟩
              · intro xs W hW hn
                simp [flowNeeds, Region.binds] at hn
                simp only [flowAct, zwc, zwn]
                try simp only [hn]
                go_wp2_with (fail)
                exact ⟨rfl, _, rfl, Below.refl _ _, rfl⟩
              · intro xs W hW hn
                simp [flowNeeds, Region.binds] at hn
                simp only [flowAct, zwc, zwn]
                try simp only [hn]
                go_wp2_with (fail)
                exact ⟨rfl, _, rfl, Below.refl _ _, rfl⟩
              · intro xs W hW hn
                simp [flowNeeds, Region.binds] at hn
                simp only [flowAct, zwc, zwn]
                try simp only [hn]
                go_wp2_with (fail)
                exact ⟨rfl, _, rfl, Below.refl _ _, rfl⟩
              · intro xs W hW hn
                simp [flowNeeds, Region.binds] at hn
                simp only [flowAct, zwc, zwn]
                try simp only [hn]
                go_wp2_with (fail)
                exact ⟨rfl, _, rfl, Below.refl _ _, rfl⟩
            · intro xs W hW hall
              simp only [flowAll, and_true, Nat.zero_add, Nat.reduceAdd] at hall
              obtain ⟨-,-,-,-,-,-,-,-,-,-,-,-,-, eL⟩ := hall
              simp only [flowAct, zwc, zwn]
              simp only [eL]
              have hbk := HBx.out.trans (hW.mono HBx.out.size)
              have hnk := HNx.out.kept hW
              clear eL
              obtain ⟨WK, hWK⟩ : ∃ X, W = X := ⟨_, rfl⟩
              rw [hWK] at hbk hnk ⊢
              clear hWK hW HBx HNx
              have HBx := Lib.hid hbk
              have HNx := Lib.hid hnk
              obtain ⟨o0, o1, o2, o3⟩ := HOW.out WK HBx.out
              obtain ⟨p0, p1, p2, p3⟩ := HXW.out WK HBx.out
              clear hbk hnk
              go_upto_region 13 with (fail)
              cases AOX with
              | true =>
                refine wp_region_flow [none,none,none,none,none,none,none,none,none,none,none,none,none,none,none,none,none,none,none,none,none,none,none,none,none,none,none,none,none,none,none,none,none,none,none,none,none,none,none,none,none, some 0, some 1, some 2, some 3, some 4, some 5, some 6, some 7, some 8, some 9, some 10, some 11, some 12, some 13, some 14, some 15, some 16, some 17, some 18, some 19, none,none,none,none,none,none,none,none,none,none,none,none,none,none,none,none,none,none] (fun i => [u41, u42, u43, u44, u45, u46, u47, u48, u49, u50, u51, u52, u53, u54, u55, u56, u57, u58, u59, u60].getD i undef) [(fun v _ => v = .slice (some ⟨bo, offo, none⟩) ol co), (fun v _ => v = .int .i64 (q : Int)), (fun v _ => v = .pointer (some ⟨bo, offo + q * 4, none⟩)), (fun v _ => v = .agg #[.string (text ko), .int .i64 io, .bool go, .string (text vo)]), (fun v _ => v = .slice (some ⟨bl, offl, none⟩) m cap), (fun v _ => v = .int .i64 (k : Int)), (fun v _ => v = .pointer (some ⟨bl, offl + k * 4, none⟩)), (fun v _ => v = .agg #[.string (text kx), .int .i64 ix, .bool gx, .string (text vx)]), (fun v _ => v = .bool true), (fun v _ => v = .bool true), (fun v _ => v = undef), (fun v _ => v = undef), (fun v _ => v = undef), (fun v _ => v = undef), (fun v _ => v = undef), (fun v _ => v = undef), (fun v _ => v = undef), (fun v _ => v = undef), (fun v _ => v = undef), (fun v _ => v = .bool true)] (by kernel_rfl) (by kernel_rfl) rfl rfl rfl ?_ ?_ ?_
                · intro g hg v X Y hX hY hv
                  simp only [List.mem_cons, List.not_mem_nil, or_false] at hg
                  rcases hg with rfl | rfl | rfl | rfl | rfl | rfl | rfl | rfl | rfl | rfl | rfl | rfl | rfl | rfl | rfl | rfl | rfl | rfl | rfl | rfl
                  all_goals first
                    | exact hv
                    | exact hv.kept hY
                · simp only [flowOps, and_true]
                  refine ⟨?_,?_,?_,?_,?_,?_,?_,?_,?_,?_,?_,?_,?_,?_,?_,?_,?_,?_,?_,?_⟩
                  · intro xs W hW hn
                    simp only [flowAct, zwc, zwn]
                    go_wp2_with (fail)
                    exact ⟨rfl, _, rfl, Below.refl _ _, rfl⟩
                  · intro xs W hW hn
                    simp only [flowAct, zwc, zwn]
                    go_wp2_with (fail)
                    exact ⟨rfl, _, rfl, Below.refl _ _, rfl⟩
                  · intro xs W hW hn
                    simp [flowNeeds, Region.binds] at hn
                    simp only [flowAct, zwc, zwn]
                    try simp only [hn]
                    go_wp2_with (fail)
                    exact ⟨rfl, _, rfl, Below.refl _ _, rfl⟩
                  · intro xs W hW hn
                    obtain ⟨o0, o1, o2, o3⟩ := HOW.out W (HBx.out.trans (hW.mono HBx.out.size))
                    simp [flowNeeds, Region.binds] at hn
                    simp only [flowAct, zwc, zwn]
                    try simp only [hn]
                    go_wp2_with (fail)
                    exact ⟨rfl, _, rfl, Below.refl _ _, rfl⟩
                  · intro xs W hW hn
                    simp only [flowAct, zwc, zwn]
                    go_wp2_with (fail)
                    exact ⟨rfl, _, rfl, Below.refl _ _, rfl⟩
                  · intro xs W hW hn
                    simp only [flowAct, zwc, zwn]
                    go_wp2_with (fail)
                    exact ⟨rfl, _, rfl, Below.refl _ _, rfl⟩
                  · intro xs W hW hn
                    simp [flowNeeds, Region.binds] at hn
                    simp only [flowAct, zwc, zwn]
                    try simp only [hn]
                    go_wp2_with (fail)
                    exact ⟨rfl, _, rfl, Below.refl _ _, rfl⟩
                  · intro xs W hW hn
                    obtain ⟨p0, p1, p2, p3⟩ := HXW.out W (HBx.out.trans (hW.mono HBx.out.size))
                    simp [flowNeeds, Region.binds] at hn
                    simp only [flowAct, zwc, zwn]
                    try simp only [hn]
                    go_wp2_with (fail)
                    exact ⟨rfl, _, rfl, Below.refl _ _, rfl⟩
                  · intro xs W hW hn
                    simp [flowNeeds, Region.binds] at hn
                    simp only [flowAct, zwc, zwn]
                    simp only [hn]
                    go_wp2_with (go_at_call 18; (with_reducible refine (HAOX.out _).mono ?_); rintro e9 w9 ⟨rfl, hb9⟩)
                    exact ⟨rfl, _, rfl, hb9, rfl⟩
                  · intro xs W hW hn
                    simp [flowNeeds, Region.binds] at hn
                    simp only [flowAct, zwc, zwn]
                    try simp only [hn]
                    go_wp2_with (fail)
                    exact ⟨rfl, _, rfl, Below.refl _ _, rfl⟩
                  · intro xs W hW hn
                    simp [flowNeeds, Region.binds] at hn
                    simp only [flowAct, zwc, zwn]
                    try simp only [hn]
                    go_wp2_with (fail)
                    exact ⟨rfl, _, rfl, Below.refl _ _, rfl⟩
                  · intro xs W hW hn
                    simp [flowNeeds, Region.binds] at hn
                    simp only [flowAct, zwc, zwn]
                    try simp only [hn]
                    go_wp2_with (fail)
                    exact ⟨rfl, _, rfl, Below.refl _ _, rfl⟩
                  · intro xs W hW hn
                    simp [flowNeeds, Region.binds] at hn
                    simp only [flowAct, zwc, zwn]
                    try simp only [hn]
                    go_wp2_with (fail)
                    exact ⟨rfl, _, rfl, Below.refl _ _, rfl⟩
                  · intro xs W hW hn
                    simp [flowNeeds, Region.binds] at hn
                    simp only [flowAct, zwc, zwn]
                    try simp only [hn]
                    go_wp2_with (fail)
                    exact ⟨rfl, _, rfl, Below.refl _ _, rfl⟩
                  · intro xs W hW hn
                    simp [flowNeeds, Region.binds] at hn
                    simp only [flowAct, zwc, zwn]
                    try simp only [hn]
                    go_wp2_with (fail)
                    exact ⟨rfl, _, rfl, Below.refl _ _, rfl⟩
                  · intro xs W hW hn
                    simp [flowNeeds, Region.binds] at hn
                    simp only [flowAct, zwc, zwn]
                    try simp only [hn]
                    go_wp2_with (fail)
                    exact ⟨rfl, _, rfl, Below.refl _ _, rfl⟩
                  · intro xs W hW hn
                    simp [flowNeeds, Region.binds] at hn
                    simp only [flowAct, zwc, zwn]
                    try simp only [hn]
                    go_wp2_with (fail)
                    exact ⟨rfl, _, rfl, Below.refl _ _, rfl⟩
                  · intro xs W hW hn
                    simp [flowNeeds, Region.binds] at hn
                    simp only [flowAct, zwc, zwn]
                    try simp only [hn]
                    go_wp2_with (fail)
                    exact ⟨rfl, _, rfl, Below.refl _ _, rfl⟩
                  · intro xs W hW hn
                    simp [flowNeeds, Region.binds] at hn
                    simp only [flowAct, zwc, zwn]
                    try simp only [hn]
                    go_wp2_with (fail)
                    exact ⟨rfl, _, rfl, Below.refl _ _, rfl⟩
                  · intro xs W hW hn
                    simp [flowNeeds, Region.binds] at hn
                    simp only [flowAct, zwc, zwn]
                    try simp only [hn]
                    go_wp2_with (fail)
                    exact ⟨rfl, _, rfl, Below.refl _ _, rfl⟩
                · intro xs W hW hall
                  simp only [flowAll, and_true, Nat.zero_add, Nat.reduceAdd] at hall
                  obtain ⟨-,-,-,-,-,-,-,-,-,-,-,-,-,-,-,-,-,-,-, eL⟩ := hall
                  simp only [flowAct, zwc, zwn]
                  simp only [eL]
                  have hbk := HBx.out.trans (hW.mono HBx.out.size)
                  have hnk := HNx.out.kept hW
                  clear eL
                  obtain ⟨WK, hWK⟩ : ∃ X, W = X := ⟨_, rfl⟩
                  rw [hWK] at hbk hnk ⊢
                  clear hWK hW HBx HNx
                  have HBx := Lib.hid hbk
                  have HNx := Lib.hid hnk
                  obtain ⟨o0, o1, o2, o3⟩ := HOW.out WK HBx.out
                  obtain ⟨p0, p1, p2, p3⟩ := HXW.out WK HBx.out
                  clear hbk hnk
                  have HST := Lib.hid (show cN ⟨kx, ix, gx, vx⟩ O (q + 1) = (NN ++ [⟨ko, io, go, vo⟩], true) by rw [HCN.out]; rfl)
                  have hbs := HBx.out.size
                  have hl9 : NN.length ≤ 1000000000 := by have := HNL.out; have := HNE.out; omega
                  have HL9 := Lib.hid hl9
                  clear hl9
                  go_wp2_with (at_builtin; refine wpList_append_wr rfl _ _ rfl (u := .slice an nl cn) rfl HNx.out ko io go vo rfl HL9.out hbs ?_; intro v' w' ho' hg'; obtain ⟨a8, c8, e8, -⟩ := OwnL.wrs ho'; rw [List.length_append, List.length_singleton, HNE.out] at e8; subst e8)
                  have hbk := ((HBx.out.alloc hbs (.cells #[.string (text ko), .int .i64 io, .bool go, .string (text vo)] 28)).grown hg' (by simp; omega) (fun z e => (HNx.out.lt z e).1))
                  refine ⟨⟨q + 1, _, _, _, by omega, by go_num, rfl, rfl, HST.out, ho', hbk⟩, ?_⟩
                  simp [intOf]; omega
              | false =>
                refine wp_region_flow [none,none,none,none,none,none,none,none,none,none,none,none,none,none,none,none,none,none,none,none,none,none,none,none,none,none,none,none,none,none,none,none,none,none,none,none,none,none,none,none,none, some 0, some 1, some 2, some 3, some 4, some 5, some 6, some 7, some 8, some 9, some 10, some 11, some 12, some 13, some 14, some 15, some 16, some 17, some 18, some 19, none,none,none,none,none,none,none,none,none,none,none,none,none,none,none,none,none,none] (fun i => [u41, u42, u43, u44, u45, u46, u47, u48, u49, u50, u51, u52, u53, u54, u55, u56, u57, u58, u59, u60].getD i undef) [(fun v _ => v = .slice (some ⟨bo, offo, none⟩) ol co), (fun v _ => v = .int .i64 (q : Int)), (fun v _ => v = .pointer (some ⟨bo, offo + q * 4, none⟩)), (fun v _ => v = .agg #[.string (text ko), .int .i64 io, .bool go, .string (text vo)]), (fun v _ => v = .slice (some ⟨bl, offl, none⟩) m cap), (fun v _ => v = .int .i64 (k : Int)), (fun v _ => v = .pointer (some ⟨bl, offl + k * 4, none⟩)), (fun v _ => v = .agg #[.string (text kx), .int .i64 ix, .bool gx, .string (text vx)]), (fun v _ => v = .bool false), (fun v _ => v = .bool false), (fun v _ => v = .slice (some ⟨bl, offl, none⟩) m cap), (fun v _ => v = .int .i64 (k : Int)), (fun v _ => v = .pointer (some ⟨bl, offl + k * 4, none⟩)), (fun v _ => v = .agg #[.string (text kx), .int .i64 ix, .bool gx, .string (text vx)]), (fun v _ => v = .slice (some ⟨bo, offo, none⟩) ol co), (fun v _ => v = .int .i64 (q : Int)), (fun v _ => v = .pointer (some ⟨bo, offo + q * 4, none⟩)), (fun v _ => v = .agg #[.string (text ko), .int .i64 io, .bool go, .string (text vo)]), (fun v _ => v = .bool AXO), (fun v _ => v = .bool AXO)] (by kernel_rfl) (by kernel_rfl) rfl rfl rfl ?_ ?_ ?_
                · intro g hg v X Y hX hY hv
                  simp only [List.mem_cons, List.not_mem_nil, or_false] at hg
                  rcases hg with rfl | rfl | rfl | rfl | rfl | rfl | rfl | rfl | rfl | rfl | rfl | rfl | rfl | rfl | rfl | rfl | rfl | rfl | rfl | rfl
                  all_goals first
                    | exact hv
                    | exact hv.kept hY
                · simp only [flowOps, and_true]
                  refine ⟨?_,?_,?_,?_,?_,?_,?_,?_,?_,?_,?_,?_,?_,?_,?_,?_,?_,?_,?_,?_⟩
                  · intro xs W hW hn
                    simp only [flowAct, zwc, zwn]
                    go_wp2_with (fail)
                    exact ⟨rfl, _, rfl, Below.refl _ _, rfl⟩
                  · intro xs W hW hn
                    simp only [flowAct, zwc, zwn]
                    go_wp2_with (fail)
                    exact ⟨rfl, _, rfl, Below.refl _ _, rfl⟩
                  · intro xs W hW hn
                    simp [flowNeeds, Region.binds] at hn
                    simp only [flowAct, zwc, zwn]
                    try simp only [hn]
                    go_wp2_with (fail)
                    exact ⟨rfl, _, rfl, Below.refl _ _, rfl⟩
                  · intro xs W hW hn
                    obtain ⟨o0, o1, o2, o3⟩ := HOW.out W (HBx.out.trans (hW.mono HBx.out.size))
                    simp [flowNeeds, Region.binds] at hn
                    simp only [flowAct, zwc, zwn]
                    try simp only [hn]
                    go_wp2_with (fail)
                    exact ⟨rfl, _, rfl, Below.refl _ _, rfl⟩
                  · intro xs W hW hn
                    simp only [flowAct, zwc, zwn]
                    go_wp2_with (fail)
                    exact ⟨rfl, _, rfl, Below.refl _ _, rfl⟩
                  · intro xs W hW hn
                    simp only [flowAct, zwc, zwn]
                    go_wp2_with (fail)
                    exact ⟨rfl, _, rfl, Below.refl _ _, rfl⟩
                  · intro xs W hW hn
                    simp [flowNeeds, Region.binds] at hn
                    simp only [flowAct, zwc, zwn]
                    try simp only [hn]
                    go_wp2_with (fail)
                    exact ⟨rfl, _, rfl, Below.refl _ _, rfl⟩
                  · intro xs W hW hn
                    obtain ⟨p0, p1, p2, p3⟩ := HXW.out W (HBx.out.trans (hW.mono HBx.out.size))
                    simp [flowNeeds, Region.binds] at hn
                    simp only [flowAct, zwc, zwn]
                    try simp only [hn]
                    go_wp2_with (fail)
                    exact ⟨rfl, _, rfl, Below.refl _ _, rfl⟩
                  · intro xs W hW hn
                    simp [flowNeeds, Region.binds] at hn
                    simp only [flowAct, zwc, zwn]
                    simp only [hn]
                    go_wp2_with (go_at_call 18; (with_reducible refine (HAOX.out _).mono ?_); rintro e9 w9 ⟨rfl, hb9⟩)
                    exact ⟨rfl, _, rfl, hb9, rfl⟩
                  · intro xs W hW hn
                    simp [flowNeeds, Region.binds] at hn
                    simp only [flowAct, zwc, zwn]
                    try simp only [hn]
                    go_wp2_with (fail)
                    exact ⟨rfl, _, rfl, Below.refl _ _, rfl⟩
                  · intro xs W hW hn
                    simp [flowNeeds, Region.binds] at hn
                    simp only [flowAct, zwc, zwn]
                    try simp only [hn]
                    go_wp2_with (fail)
                    exact ⟨rfl, _, rfl, Below.refl _ _, rfl⟩
                  · intro xs W hW hn
                    simp [flowNeeds, Region.binds] at hn
                    simp only [flowAct, zwc, zwn]
                    try simp only [hn]
                    go_wp2_with (fail)
                    exact ⟨rfl, _, rfl, Below.refl _ _, rfl⟩
                  · intro xs W hW hn
                    simp [flowNeeds, Region.binds] at hn
                    simp only [flowAct, zwc, zwn]
                    try simp only [hn]
                    go_wp2_with (fail)
                    exact ⟨rfl, _, rfl, Below.refl _ _, rfl⟩
                  · intro xs W hW hn
                    obtain ⟨p0, p1, p2, p3⟩ := HXW.out W (HBx.out.trans (hW.mono HBx.out.size))
                    simp [flowNeeds, Region.binds] at hn
                    simp only [flowAct, zwc, zwn]
                    try simp only [hn]
                    go_wp2_with (fail)
                    exact ⟨rfl, _, rfl, Below.refl _ _, rfl⟩
                  · intro xs W hW hn
                    simp [flowNeeds, Region.binds] at hn
                    simp only [flowAct, zwc, zwn]
                    try simp only [hn]
                    go_wp2_with (fail)
                    exact ⟨rfl, _, rfl, Below.refl _ _, rfl⟩
                  · intro xs W hW hn
                    simp [flowNeeds, Region.binds] at hn
                    simp only [flowAct, zwc, zwn]
                    try simp only [hn]
                    go_wp2_with (fail)
                    exact ⟨rfl, _, rfl, Below.refl _ _, rfl⟩
                  · intro xs W hW hn
                    simp [flowNeeds, Region.binds] at hn
                    simp only [flowAct, zwc, zwn]
                    try simp only [hn]
                    go_wp2_with (fail)
                    exact ⟨rfl, _, rfl, Below.refl _ _, rfl⟩
                  · intro xs W hW hn
                    obtain ⟨o0, o1, o2, o3⟩ := HOW.out W (HBx.out.trans (hW.mono HBx.out.size))
                    simp [flowNeeds, Region.binds] at hn
                    simp only [flowAct, zwc, zwn]
                    try simp only [hn]
                    go_wp2_with (fail)
                    exact ⟨rfl, _, rfl, Below.refl _ _, rfl⟩
                  · intro xs W hW hn
                    simp [flowNeeds, Region.binds] at hn
                    simp only [flowAct, zwc, zwn]
                    simp only [hn]
                    go_wp2_with (go_at_call 18; (with_reducible refine (HAXO.out _).mono ?_); rintro e9 w9 ⟨rfl, hb9⟩)
                    exact ⟨rfl, _, rfl, hb9, rfl⟩
                  · intro xs W hW hn
                    simp [flowNeeds, Region.binds] at hn
                    simp only [flowAct, zwc, zwn]
                    try simp only [hn]
                    go_wp2_with (fail)
                    exact ⟨rfl, _, rfl, Below.refl _ _, rfl⟩
                · intro xs W hW hall
                  simp only [flowAll, and_true, Nat.zero_add, Nat.reduceAdd] at hall
                  obtain ⟨-,-,-,-,-,-,-,-,-,-,-,-,-,-,-,-,-,-,-, eL⟩ := hall
                  simp only [flowAct, zwc, zwn]
                  simp only [eL]
                  have hbk := HBx.out.trans (hW.mono HBx.out.size)
                  have hnk := HNx.out.kept hW
                  clear eL
                  obtain ⟨WK, hWK⟩ : ∃ X, W = X := ⟨_, rfl⟩
                  rw [hWK] at hbk hnk ⊢
                  clear hWK hW HBx HNx
                  have HBx := Lib.hid hbk
                  have HNx := Lib.hid hnk
                  obtain ⟨o0, o1, o2, o3⟩ := HOW.out WK HBx.out
                  obtain ⟨p0, p1, p2, p3⟩ := HXW.out WK HBx.out
                  clear hbk hnk
                  cases AXO with
                  | true =>
                    have HST := Lib.hid (show cN ⟨kx, ix, gx, vx⟩ O (q + 1) = (NN ++ [⟨ko, io, go, vo⟩], true) by rw [HCN.out]; rfl)
                    have hbs := HBx.out.size
                    have hl9 : NN.length ≤ 1000000000 := by have := HNL.out; have := HNE.out; omega
                    have HL9 := Lib.hid hl9
                    clear hl9
                    go_wp2_with (at_builtin; refine wpList_append_wr rfl _ _ rfl (u := .slice an nl cn) rfl HNx.out ko io go vo rfl HL9.out hbs ?_; intro v' w' ho' hg'; obtain ⟨a8, c8, e8, -⟩ := OwnL.wrs ho'; rw [List.length_append, List.length_singleton, HNE.out] at e8; subst e8)
                    have hbk := ((HBx.out.alloc hbs (.cells #[.string (text ko), .int .i64 io, .bool go, .string (text vo)] 28)).grown hg' (by simp; omega) (fun z e => (HNx.out.lt z e).1))
                    refine ⟨⟨q + 1, _, _, _, by omega, by go_num, rfl, rfl, HST.out, ho', hbk⟩, ?_⟩
                    simp [intOf]; omega
                  | false =>
                    have HST := Lib.hid (show cN ⟨kx, ix, gx, vx⟩ O (q + 1) = (NN, true) by rw [HCN.out]; rfl)
                    go_wp2
                    go_roundw
                    case rel => exact ⟨q + 1, _, _, _, by omega, by go_num, rfl, rfl, HST.out, HNx.out, HBx.out⟩
                    case measure => simp [intOf]; omega
          | false =>
            refine wp_region_flow [none,none,none,none,none,none,none,none,none,none,none,none,none,none,none,none,none,none,none,none, some 0, some 1, some 2, some 3, some 4, some 5, some 6, some 7, some 8, some 9, some 10, some 11, some 12, some 13, none,none,none,none,none,none,none,none,none,none,none,none,none,none,none,none,none,none,none,none,none,none,none,none,none,none,none,none,none,none,none,none,none,none,none,none,none,none,none,none,none,none,none,none,none] (fun i => [u20, u21, u22, u23, u24, u25, u26, u27, u28, u29, u30, u31, u32, u33].getD i undef) [(fun v _ => v = .bool false), (fun v _ => v = .bool true), (fun v _ => v = .bool true), (fun v _ => v = .slice (some ⟨bo, offo, none⟩) ol co), (fun v _ => v = .int .i64 (q : Int)), (fun v _ => v = .pointer (some ⟨bo, offo + q * 4, none⟩)), (fun v _ => v = .agg #[.string (text ko), .int .i64 io, .bool go, .string (text vo)]), (fun v _ => v = .slice (some ⟨bl, offl, none⟩) m cap), (fun v _ => v = .int .i64 (k : Int)), (fun v _ => v = .pointer (some ⟨bl, offl + k * 4, none⟩)), (fun v _ => v = .agg #[.string (text kx), .int .i64 ix, .bool gx, .string (text vx)]), (fun v _ => v = .bool AOX), (fun v _ => v = .bool (!AOX)), (fun v _ => v = .bool (!AOX))] (by kernel_rfl) (by kernel_rfl) rfl rfl rfl ?_ ?_ ?_
            · intro g hg v X Y hX hY hv
              simp only [List.mem_cons, List.not_mem_nil, or_false] at hg
              rcases hg with rfl | rfl | rfl | rfl | rfl | rfl | rfl | rfl | rfl | rfl | rfl | rfl | rfl | rfl
              all_goals first
                | exact hv
                | exact hv.kept hY
            · simp only [flowOps, and_true]
              refine ⟨?_,?_,?_,?_,?_,?_,?_,?_,?_,?_,?_,?_,?_,?_⟩
              · intro xs W hW hn
                simp only [flowAct, zwc, zwn]
                go_wp2_with (fail)
                exact ⟨rfl, _, rfl, Below.refl _ _, rfl⟩
              · intro xs W hW hn
                simp [flowNeeds, Region.binds] at hn
                simp only [flowAct, zwc, zwn]
                try simp only [hn]
                go_wp2_with (fail)
                exact ⟨rfl, _, rfl, Below.refl _ _, rfl⟩
              · intro xs W hW hn
                simp [flowNeeds, Region.binds] at hn
                simp only [flowAct, zwc, zwn]
                try simp only [hn]
                go_wp2_with (fail)
                exact ⟨rfl, _, rfl, Below.refl _ _, rfl⟩
              · intro xs W hW hn
                simp [flowNeeds, Region.binds] at hn
                simp only [flowAct, zwc, zwn]
                try simp only [hn]
                go_wp2_with (fail)
                exact ⟨rfl, _, rfl, Below.refl _ _, rfl⟩
              · intro xs W hW hn
                simp [flowNeeds, Region.binds] at hn
                simp only [flowAct, zwc, zwn]
                try simp only [hn]
                go_wp2_with (fail)
                exact ⟨rfl, _, rfl, Below.refl _ _, rfl⟩
              · intro xs W hW hn
                simp [flowNeeds, Region.binds] at hn
                simp only [flowAct, zwc, zwn]
                try simp only [hn]
                go_wp2_with (fail)
                exact ⟨rfl, _, rfl, Below.refl _ _, rfl⟩
              · intro xs W hW hn
                obtain ⟨o0, o1, o2, o3⟩ := HOW.out W (HBx.out.trans (hW.mono HBx.out.size))
                simp [flowNeeds, Region.binds] at hn
                simp only [flowAct, zwc, zwn]
                try simp only [hn]
                go_wp2_with (fail)
                exact ⟨rfl, _, rfl, Below.refl _ _, rfl⟩
              · intro xs W hW hn
                simp [flowNeeds, Region.binds] at hn
                simp only [flowAct, zwc, zwn]
                try simp only [hn]
                go_wp2_with (fail)
                exact ⟨rfl, _, rfl, Below.refl _ _, rfl⟩
              · intro xs W hW hn
                simp [flowNeeds, Region.binds] at hn
                simp only [flowAct, zwc, zwn]
                try simp only [hn]
                go_wp2_with (fail)
                exact ⟨rfl, _, rfl, Below.refl _ _, rfl⟩
              · intro xs W hW hn
                simp [flowNeeds, Region.binds] at hn
                simp only [flowAct, zwc, zwn]
                try simp only [hn]
                go_wp2_with (fail)
                exact ⟨rfl, _, rfl, Below.refl _ _, rfl⟩
              · intro xs W hW hn
                obtain ⟨p0, p1, p2, p3⟩ := HXW.out W (HBx.out.trans (hW.mono HBx.out.size))
                simp [flowNeeds, Region.binds] at hn
                simp only [flowAct, zwc, zwn]
                try simp only [hn]
                go_wp2_with (fail)
                exact ⟨rfl, _, rfl, Below.refl _ _, rfl⟩
              · intro xs W hW hn
                simp [flowNeeds, Region.binds] at hn
                simp only [flowAct, zwc, zwn]
                simp only [hn]
                go_wp2_with (go_at_call 18; (with_reducible refine (HAOX.out _).mono ?_); rintro e9 w9 ⟨rfl, hb9⟩)
                exact ⟨rfl, _, rfl, hb9, rfl⟩
              · intro xs W hW hn
                simp [flowNeeds, Region.binds] at hn
                simp only [flowAct, zwc, zwn]
                try simp only [hn]
                go_wp2_with (fail)
                exact ⟨rfl, _, rfl, Below.refl _ _, rfl⟩
              · intro xs W hW hn
                simp [flowNeeds, Region.binds] at hn
                simp only [flowAct, zwc, zwn]
                try simp only [hn]
                go_wp2_with (fail)
                exact ⟨rfl, _, rfl, Below.refl _ _, rfl⟩
            · intro xs W hW hall
              simp only [flowAll, and_true, Nat.zero_add, Nat.reduceAdd] at hall
              obtain ⟨-,-,-,-,-,-,-,-,-,-,-,-,-, eL⟩ := hall
              simp only [flowAct, zwc, zwn]
              simp only [eL]
              have hbk := HBx.out.trans (hW.mono HBx.out.size)
              have hnk := HNx.out.kept hW
              clear eL
              obtain ⟨WK, hWK⟩ : ∃ X, W = X := ⟨_, rfl⟩
              rw [hWK] at hbk hnk ⊢
              clear hWK hW HBx HNx
              have HBx := Lib.hid hbk
              have HNx := Lib.hid hnk
              obtain ⟨o0, o1, o2, o3⟩ := HOW.out WK HBx.out
              obtain ⟨p0, p1, p2, p3⟩ := HXW.out WK HBx.out
              clear hbk hnk
              cases AOX with
              | true =>
                go_upto_region 13 with (fail)
                refine wp_region_flow [none,none,none,none,none,none,none,none,none,none,none,none,none,none,none,none,none,none,none,none,none,none,none,none,none,none,none,none,none,none,none,none,none,none,none,none,none,none,none,none,none, some 0, some 1, some 2, some 3, some 4, some 5, some 6, some 7, some 8, some 9, some 10, some 11, some 12, some 13, some 14, some 15, some 16, some 17, some 18, some 19, none,none,none,none,none,none,none,none,none,none,none,none,none,none,none,none,none,none] (fun i => [u41, u42, u43, u44, u45, u46, u47, u48, u49, u50, u51, u52, u53, u54, u55, u56, u57, u58, u59, u60].getD i undef) [(fun v _ => v = .slice (some ⟨bo, offo, none⟩) ol co), (fun v _ => v = .int .i64 (q : Int)), (fun v _ => v = .pointer (some ⟨bo, offo + q * 4, none⟩)), (fun v _ => v = .agg #[.string (text ko), .int .i64 io, .bool go, .string (text vo)]), (fun v _ => v = .slice (some ⟨bl, offl, none⟩) m cap), (fun v _ => v = .int .i64 (k : Int)), (fun v _ => v = .pointer (some ⟨bl, offl + k * 4, none⟩)), (fun v _ => v = .agg #[.string (text kx), .int .i64 ix, .bool gx, .string (text vx)]), (fun v _ => v = .bool true), (fun v _ => v = .bool true), (fun v _ => v = undef), (fun v _ => v = undef), (fun v _ => v = undef), (fun v _ => v = undef), (fun v _ => v = undef), (fun v _ => v = undef), (fun v _ => v = undef), (fun v _ => v = undef), (fun v _ => v = undef), (fun v _ => v = .bool true)] (by kernel_rfl) (by kernel_rfl) rfl rfl rfl ?_ ?_ ?_
                · intro g hg v X Y hX hY hv
                  simp only [List.mem_cons, List.not_mem_nil, or_false] at hg
                  rcases hg with rfl | rfl | rfl | rfl | rfl | rfl | rfl | rfl | rfl | rfl | rfl | rfl | rfl | rfl | rfl | rfl | rfl | rfl | rfl | rfl
                  all_goals first
                    | exact hv
                    | exact hv.kept hY
                · simp only [flowOps, and_true]
                  refine ⟨?_,?_,?_,?_,?_,?_,?_,?_,?_,?_,?_,?_,?_,?_,?_,?_,?_,?_,?_,?_⟩
                  · intro xs W hW hn
                    simp only [flowAct, zwc, zwn]
                    go_wp2_with (fail)
                    exact ⟨rfl, _, rfl, Below.refl _ _, rfl⟩
                  · intro xs W hW hn
                    simp only [flowAct, zwc, zwn]
                    go_wp2_with (fail)
                    exact ⟨rfl, _, rfl, Below.refl _ _, rfl⟩
                  · intro xs W hW hn
                    simp [flowNeeds, Region.binds] at hn
                    simp only [flowAct, zwc, zwn]
                    try simp only [hn]
                    go_wp2_with (fail)
                    exact ⟨rfl, _, rfl, Below.refl _ _, rfl⟩
                  · intro xs W hW hn
                    obtain ⟨o0, o1, o2, o3⟩ := HOW.out W (HBx.out.trans (hW.mono HBx.out.size))
                    simp [flowNeeds, Region.binds] at hn
                    simp only [flowAct, zwc, zwn]
                    try simp only [hn]
                    go_wp2_with (fail)
                    exact ⟨rfl, _, rfl, Below.refl _ _, rfl⟩
                  · intro xs W hW hn
                    simp only [flowAct, zwc, zwn]
                    go_wp2_with (fail)
                    exact ⟨rfl, _, rfl, Below.refl _ _, rfl⟩
                  · intro xs W hW hn
                    simp only [flowAct, zwc, zwn]
                    go_wp2_with (fail)
                    exact ⟨rfl, _, rfl, Below.refl _ _, rfl⟩
                  · intro xs W hW hn
                    simp [flowNeeds, Region.binds] at hn
                    simp only [flowAct, zwc, zwn]
                    try simp only [hn]
                    go_wp2_with (fail)
                    exact ⟨rfl, _, rfl, Below.refl _ _, rfl⟩
                  · intro xs W hW hn
                    obtain ⟨p0, p1, p2, p3⟩ := HXW.out W (HBx.out.trans (hW.mono HBx.out.size))
                    simp [flowNeeds, Region.binds] at hn
                    simp only [flowAct, zwc, zwn]
                    try simp only [hn]
                    go_wp2_with (fail)
                    exact ⟨rfl, _, rfl, Below.refl _ _, rfl⟩
                  · intro xs W hW hn
                    simp [flowNeeds, Region.binds] at hn
                    simp only [flowAct, zwc, zwn]
                    simp only [hn]
                    go_wp2_with (go_at_call 18; (with_reducible refine (HAOX.out _).mono ?_); rintro e9 w9 ⟨rfl, hb9⟩)
                    exact ⟨rfl, _, rfl, hb9, rfl⟩
                  · intro xs W hW hn
                    simp [flowNeeds, Region.binds] at hn
                    simp only [flowAct, zwc, zwn]
                    try simp only [hn]
                    go_wp2_with (fail)
                    exact ⟨rfl, _, rfl, Below.refl _ _, rfl⟩
                  · intro xs W hW hn
                    simp [flowNeeds, Region.binds] at hn
                    simp only [flowAct, zwc, zwn]
                    try simp only [hn]
                    go_wp2_with (fail)
                    exact ⟨rfl, _, rfl, Below.refl _ _, rfl⟩
                  · intro xs W hW hn
                    simp [flowNeeds, Region.binds] at hn
                    simp only [flowAct, zwc, zwn]
                    try simp only [hn]
                    go_wp2_with (fail)
                    exact ⟨rfl, _, rfl, Below.refl _ _, rfl⟩
                  · intro xs W hW hn
                    simp [flowNeeds, Region.binds] at hn
                    simp only [flowAct, zwc, zwn]
                    try simp only [hn]
                    go_wp2_with (fail)
                    exact ⟨rfl, _, rfl, Below.refl _ _, rfl⟩
                  · intro xs W hW hn
                    simp [flowNeeds, Region.binds] at hn
                    simp only [flowAct, zwc, zwn]
                    try simp only [hn]
                    go_wp2_with (fail)
                    exact ⟨rfl, _, rfl, Below.refl _ _, rfl⟩
                  · intro xs W hW hn
                    simp [flowNeeds, Region.binds] at hn
                    simp only [flowAct, zwc, zwn]
                    try simp only [hn]
                    go_wp2_with (fail)
                    exact ⟨rfl, _, rfl, Below.refl _ _, rfl⟩
                  · intro xs W hW hn
                    simp [flowNeeds, Region.binds] at hn
                    simp only [flowAct, zwc, zwn]
                    try simp only [hn]
                    go_wp2_with (fail)
                    exact ⟨rfl, _, rfl, Below.refl _ _, rfl⟩
                  · intro xs W hW hn
                    simp [flowNeeds, Region.binds] at hn
                    simp only [flowAct, zwc, zwn]
                    try simp only [hn]
                    go_wp2_with (fail)
                    exact ⟨rfl, _, rfl, Below.refl _ _, rfl⟩
                  · intro xs W hW hn
                    simp [flowNeeds, Region.binds] at hn
                    simp only [flowAct, zwc, zwn]
                    try simp only [hn]
                    go_wp2_with (fail)
                    exact ⟨rfl, _, rfl, Below.refl _ _, rfl⟩
                  · intro xs W hW hn
                    simp [flowNeeds, Region.binds] at hn
                    simp only [flowAct, zwc, zwn]
                    try simp only [hn]
                    go_wp2_with (fail)
                    exact ⟨rfl, _, rfl, Below.refl _ _, rfl⟩
                  · intro xs W hW hn
                    simp [flowNeeds, Region.binds] at hn
                    simp only [flowAct, zwc, zwn]
                    try simp only [hn]
                    go_wp2_with (fail)
                    exact ⟨rfl, _, rfl, Below.refl _ _, rfl⟩
                · intro xs W hW hall
                  simp only [flowAll, and_true, Nat.zero_add, Nat.reduceAdd] at hall
                  obtain ⟨-,-,-,-,-,-,-,-,-,-,-,-,-,-,-,-,-,-,-, eL⟩ := hall
                  simp only [flowAct, zwc, zwn]
                  simp only [eL]
                  have hbk := HBx.out.trans (hW.mono HBx.out.size)
                  have hnk := HNx.out.kept hW
                  clear eL
                  obtain ⟨WK, hWK⟩ : ∃ X, W = X := ⟨_, rfl⟩
                  rw [hWK] at hbk hnk ⊢
                  clear hWK hW HBx HNx
                  have HBx := Lib.hid hbk
                  have HNx := Lib.hid hnk
                  obtain ⟨o0, o1, o2, o3⟩ := HOW.out WK HBx.out
                  obtain ⟨p0, p1, p2, p3⟩ := HXW.out WK HBx.out
                  clear hbk hnk
                  have HST := Lib.hid (show cN ⟨kx, ix, gx, vx⟩ O (q + 1) = (NN ++ [⟨ko, io, go, vo⟩], false) by rw [HCN.out]; rfl)
                  have hbs := HBx.out.size
                  have hl9 : NN.length ≤ 1000000000 := by have := HNL.out; have := HNE.out; omega
                  have HL9 := Lib.hid hl9
                  clear hl9
                  go_wp2_with (at_builtin; refine wpList_append_wr rfl _ _ rfl (u := .slice an nl cn) rfl HNx.out ko io go vo rfl HL9.out hbs ?_; intro v' w' ho' hg'; obtain ⟨a8, c8, e8, -⟩ := OwnL.wrs ho'; rw [List.length_append, List.length_singleton, HNE.out] at e8; subst e8)
                  have hbk := ((HBx.out.alloc hbs (.cells #[.string (text ko), .int .i64 io, .bool go, .string (text vo)] 28)).grown hg' (by simp; omega) (fun z e => (HNx.out.lt z e).1))
                  refine ⟨⟨q + 1, _, _, _, by omega, by go_num, rfl, rfl, HST.out, ho', hbk⟩, ?_⟩
                  simp [intOf]; omega
              | false =>
                have hcn := HCN.out
                simp only [Bool.not_false, Bool.and_self, if_true] at hcn
                clear HCN
                have HCN := Lib.hid hcn
                clear hcn
                have hbs := HBx.out.size
                have hl9 : NN.length ≤ 1000000000 := by have := HNL.out; have := HNE.out; omega
                have HL9 := Lib.hid hl9
                clear hl9
                go_upto_region 13 with (at_builtin; refine wpList_append_wr rfl _ _ rfl (u := .slice an nl cn) rfl HNx.out kx ix gx vx rfl HL9.out hbs ?_; intro v' w' ho' hg'; obtain ⟨a8, c8, e8, -⟩ := OwnL.wrs ho'; rw [List.length_append, List.length_singleton, HNE.out] at e8; subst e8)
                have hbk := ((HBx.out.alloc hbs (.cells #[.string (text kx), .int .i64 ix, .bool gx, .string (text vx)] 28)).grown hg' (by simp; omega) (fun z e => (HNx.out.lt z e).1))
                have hnl2 : nl + 1 ≤ q + 2 := by have := HNL.out; omega
                clear HNx HBx HL9 hg'
                have HNx := Lib.hid ho'
                have HBx := Lib.hid hbk
                clear ho' hbk
                obtain ⟨N2, hN2⟩ : ∃ z, NN ++ [⟨kx, ix, gx, vx⟩] = z := ⟨_, rfl⟩
                rw [hN2] at HNx HCN
                have hne : N2.length = nl + 1 := by rw [← hN2, List.length_append, List.length_singleton, HNE.out]
                clear hN2 HNE HNL hbs
                obtain ⟨nl2, hnl3⟩ : ∃ z, nl + 1 = z := ⟨_, rfl⟩
                rw [hnl3] at hne hnl2 HNx ⊢
                clear hnl3
                have HNE := Lib.hid hne
                have HNL := Lib.hid (show nl2 ≤ q + 2 from hnl2)
                clear hne hnl2
                refine wp_region_flow [none,none,none,none,none,none,none,none,none,none,none,none,none,none,none,none,none,none,none,none,none,none,none,none,none,none,none,none,none,none,none,none,none,none,none,none,none,none,none,none,none, some 0, some 1, some 2, some 3, some 4, some 5, some 6, some 7, some 8, some 9, some 10, some 11, some 12, some 13, some 14, some 15, some 16, some 17, some 18, some 19, none,none,none,none,none,none,none,none,none,none,none,none,none,none,none,none,none,none] (fun i => [u41, u42, u43, u44, u45, u46, u47, u48, u49, u50, u51, u52, u53, u54, u55, u56, u57, u58, u59, u60].getD i undef) [(fun v _ => v = .slice (some ⟨bo, offo, none⟩) ol co), (fun v _ => v = .int .i64 (q : Int)), (fun v _ => v = .pointer (some ⟨bo, offo + q * 4, none⟩)), (fun v _ => v = .agg #[.string (text ko), .int .i64 io, .bool go, .string (text vo)]), (fun v _ => v = .slice (some ⟨bl, offl, none⟩) m cap), (fun v _ => v = .int .i64 (k : Int)), (fun v _ => v = .pointer (some ⟨bl, offl + k * 4, none⟩)), (fun v _ => v = .agg #[.string (text kx), .int .i64 ix, .bool gx, .string (text vx)]), (fun v _ => v = .bool false), (fun v _ => v = .bool false), (fun v _ => v = .slice (some ⟨bl, offl, none⟩) m cap), (fun v _ => v = .int .i64 (k : Int)), (fun v _ => v = .pointer (some ⟨bl, offl + k * 4, none⟩)), (fun v _ => v = .agg #[.string (text kx), .int .i64 ix, .bool gx, .string (text vx)]), (fun v _ => v = .slice (some ⟨bo, offo, none⟩) ol co), (fun v _ => v = .int .i64 (q : Int)), (fun v _ => v = .pointer (some ⟨bo, offo + q * 4, none⟩)), (fun v _ => v = .agg #[.string (text ko), .int .i64 io, .bool go, .string (text vo)]), (fun v _ => v = .bool AXO), (fun v _ => v = .bool AXO)] (by kernel_rfl) (by kernel_rfl) rfl rfl rfl ?_ ?_ ?_
                · intro g hg v X Y hX hY hv
                  simp only [List.mem_cons, List.not_mem_nil, or_false] at hg
                  rcases hg with rfl | rfl | rfl | rfl | rfl | rfl | rfl | rfl | rfl | rfl | rfl | rfl | rfl | rfl | rfl | rfl | rfl | rfl | rfl | rfl
                  all_goals first
                    | exact hv
                    | exact hv.kept hY
                · simp only [flowOps, and_true]
                  refine ⟨?_,?_,?_,?_,?_,?_,?_,?_,?_,?_,?_,?_,?_,?_,?_,?_,?_,?_,?_,?_⟩
                  · intro xs W hW hn
                    simp only [flowAct, zwc, zwn]
                    go_wp2_with (fail)
                    exact ⟨rfl, _, rfl, Below.refl _ _, rfl⟩
                  · intro xs W hW hn
                    simp only [flowAct, zwc, zwn]
                    go_wp2_with (fail)
                    exact ⟨rfl, _, rfl, Below.refl _ _, rfl⟩
                  · intro xs W hW hn
                    simp [flowNeeds, Region.binds] at hn
                    simp only [flowAct, zwc, zwn]
                    try simp only [hn]
                    go_wp2_with (fail)
                    exact ⟨rfl, _, rfl, Below.refl _ _, rfl⟩
                  · intro xs W hW hn
                    obtain ⟨o0, o1, o2, o3⟩ := HOW.out W (HBx.out.trans (hW.mono HBx.out.size))
                    simp [flowNeeds, Region.binds] at hn
                    simp only [flowAct, zwc, zwn]
                    try simp only [hn]
                    go_wp2_with (fail)
                    exact ⟨rfl, _, rfl, Below.refl _ _, rfl⟩
                  · intro xs W hW hn
                    simp only [flowAct, zwc, zwn]
                    go_wp2_with (fail)
                    exact ⟨rfl, _, rfl, Below.refl _ _, rfl⟩
                  · intro xs W hW hn
                    simp only [flowAct, zwc, zwn]
                    go_wp2_with (fail)
                    exact ⟨rfl, _, rfl, Below.refl _ _, rfl⟩
                  · intro xs W hW hn
                    simp [flowNeeds, Region.binds] at hn
                    simp only [flowAct, zwc, zwn]
                    try simp only [hn]
                    go_wp2_with (fail)
                    exact ⟨rfl, _, rfl, Below.refl _ _, rfl⟩
                  · intro xs W hW hn
                    obtain ⟨p0, p1, p2, p3⟩ := HXW.out W (HBx.out.trans (hW.mono HBx.out.size))
                    simp [flowNeeds, Region.binds] at hn
                    simp only [flowAct, zwc, zwn]
                    try simp only [hn]
                    go_wp2_with (fail)
                    exact ⟨rfl, _, rfl, Below.refl _ _, rfl⟩
                  · intro xs W hW hn
                    simp [flowNeeds, Region.binds] at hn
                    simp only [flowAct, zwc, zwn]
                    simp only [hn]
                    go_wp2_with (go_at_call 18; (with_reducible refine (HAOX.out _).mono ?_); rintro e9 w9 ⟨rfl, hb9⟩)
                    exact ⟨rfl, _, rfl, hb9, rfl⟩
                  · intro xs W hW hn
                    simp [flowNeeds, Region.binds] at hn
                    simp only [flowAct, zwc, zwn]
                    try simp only [hn]
                    go_wp2_with (fail)
                    exact ⟨rfl, _, rfl, Below.refl _ _, rfl⟩
                  · intro xs W hW hn
                    simp [flowNeeds, Region.binds] at hn
                    simp only [flowAct, zwc, zwn]
                    try simp only [hn]
                    go_wp2_with (fail)
                    exact ⟨rfl, _, rfl, Below.refl _ _, rfl⟩
                  · intro xs W hW hn
                    simp [flowNeeds, Region.binds] at hn
                    simp only [flowAct, zwc, zwn]
                    try simp only [hn]
                    go_wp2_with (fail)
                    exact ⟨rfl, _, rfl, Below.refl _ _, rfl⟩
                  · intro xs W hW hn
                    simp [flowNeeds, Region.binds] at hn
                    simp only [flowAct, zwc, zwn]
                    try simp only [hn]
                    go_wp2_with (fail)
                    exact ⟨rfl, _, rfl, Below.refl _ _, rfl⟩
                  · intro xs W hW hn
                    obtain ⟨p0, p1, p2, p3⟩ := HXW.out W (HBx.out.trans (hW.mono HBx.out.size))
                    simp [flowNeeds, Region.binds] at hn
                    simp only [flowAct, zwc, zwn]
                    try simp only [hn]
                    go_wp2_with (fail)
                    exact ⟨rfl, _, rfl, Below.refl _ _, rfl⟩
                  · intro xs W hW hn
                    simp [flowNeeds, Region.binds] at hn
                    simp only [flowAct, zwc, zwn]
                    try simp only [hn]
                    go_wp2_with (fail)
                    exact ⟨rfl, _, rfl, Below.refl _ _, rfl⟩
                  · intro xs W hW hn
                    simp [flowNeeds, Region.binds] at hn
                    simp only [flowAct, zwc, zwn]
                    try simp only [hn]
                    go_wp2_with (fail)
                    exact ⟨rfl, _, rfl, Below.refl _ _, rfl⟩
                  · intro xs W hW hn
                    simp [flowNeeds, Region.binds] at hn
                    simp only [flowAct, zwc, zwn]
                    try simp only [hn]
                    go_wp2_with (fail)
                    exact ⟨rfl, _, rfl, Below.refl _ _, rfl⟩
                  · intro xs W hW hn
                    obtain ⟨o0, o1, o2, o3⟩ := HOW.out W (HBx.out.trans (hW.mono HBx.out.size))
                    simp [flowNeeds, Region.binds] at hn
                    simp only [flowAct, zwc, zwn]
                    try simp only [hn]
                    go_wp2_with (fail)
                    exact ⟨rfl, _, rfl, Below.refl _ _, rfl⟩
                  · intro xs W hW hn
                    simp [flowNeeds, Region.binds] at hn
                    simp only [flowAct, zwc, zwn]
                    simp only [hn]
                    go_wp2_with (go_at_call 18; (with_reducible refine (HAXO.out _).mono ?_); rintro e9 w9 ⟨rfl, hb9⟩)
                    exact ⟨rfl, _, rfl, hb9, rfl⟩
                  · intro xs W hW hn
                    simp [flowNeeds, Region.binds] at hn
                    simp only [flowAct, zwc, zwn]
                    try simp only [hn]
                    go_wp2_with (fail)
                    exact ⟨rfl, _, rfl, Below.refl _ _, rfl⟩
                · intro xs W hW hall
                  simp only [flowAll, and_true, Nat.zero_add, Nat.reduceAdd] at hall
                  obtain ⟨-,-,-,-,-,-,-,-,-,-,-,-,-,-,-,-,-,-,-, eL⟩ := hall
                  simp only [flowAct, zwc, zwn]
                  simp only [eL]
                  have hbk := HBx.out.trans (hW.mono HBx.out.size)
                  have hnk := HNx.out.kept hW
                  clear eL
                  obtain ⟨WK, hWK⟩ : ∃ X, W = X := ⟨_, rfl⟩
                  rw [hWK] at hbk hnk ⊢
                  clear hWK hW HBx HNx
                  have HBx := Lib.hid hbk
                  have HNx := Lib.hid hnk
                  obtain ⟨o0, o1, o2, o3⟩ := HOW.out WK HBx.out
                  obtain ⟨p0, p1, p2, p3⟩ := HXW.out WK HBx.out
                  clear hbk hnk
                  cases AXO with
                  | true =>
                    have HST := Lib.hid (show cN ⟨kx, ix, gx, vx⟩ O (q + 1) = (N2 ++ [⟨ko, io, go, vo⟩], true) by rw [HCN.out]; rfl)
                    have hbs := HBx.out.size
                    have hl9 : N2.length ≤ 1000000000 := by have := HNL.out; have := HNE.out; omega
                    have HL9 := Lib.hid hl9
                    clear hl9
                    go_wp2_with (at_builtin; refine wpList_append_wr rfl _ _ rfl (u := .slice a8 nl2 c8) rfl HNx.out ko io go vo rfl HL9.out hbs ?_; intro v' w' ho' hg'; obtain ⟨a8, c8, e8, -⟩ := OwnL.wrs ho'; rw [List.length_append, List.length_singleton, HNE.out] at e8; subst e8)
                    have hbk := ((HBx.out.alloc hbs (.cells #[.string (text ko), .int .i64 io, .bool go, .string (text vo)] 28)).grown hg' (by simp; omega) (fun z e => (HNx.out.lt z e).1))
                    refine ⟨⟨q + 1, _, _, _, by omega, by go_num, rfl, rfl, HST.out, ho', hbk⟩, ?_⟩
                    simp [intOf]; omega
                  | false =>
                    have HST := Lib.hid (show cN ⟨kx, ix, gx, vx⟩ O (q + 1) = (N2, true) by rw [HCN.out]; rfl)
                    go_wp2
                    go_roundw
                    case rel => exact ⟨q + 1, _, _, _, by omega, by go_num, rfl, rfl, HST.out, HNx.out, HBx.out⟩
                    case measure => simp [intOf]; omega
        · obtain rfl : ol = q := by omega
          cases DN with
          | true =>
            have HRR := Lib.hid (show canonN l (k + 1) = NN by rw [HCN1.out]; unfold cinsS; rw [HOL.out, HCQ.out]; rfl)
            go_wp2
            go_roundw
            case rel => exact ⟨k + 1, _, by omega, by go_num, rfl, by rw [HRR.out]; exact HNx.out.mono HB2.out.size, HB2.out.trans (HBx.out.mono HB2.out.size)⟩
            case measure => simp [intOf]; omega
          | false =>
            have HRR := Lib.hid (show canonN l (k + 1) = NN ++ [⟨kx, ix, gx, vx⟩] by rw [HCN1.out]; unfold cinsS; rw [HOL.out, HCQ.out]; rfl)
            obtain ⟨p0, p1, p2, p3⟩ := HXW.out wr HBx.out
            have hbs := HBx.out.size
            have hl9 : NN.length ≤ 1000000000 := by have := HNL.out; have := HNE.out; omega
            have HL9 := Lib.hid hl9
            clear hl9
            go_wp2_with (at_builtin; refine wpList_append_wr rfl _ _ rfl (u := .slice an nl cn) rfl HNx.out kx ix gx vx rfl HL9.out hbs ?_; intro v' w' ho' hg'; obtain ⟨a8, c8, e8, -⟩ := OwnL.wrs ho'; rw [List.length_append, List.length_singleton, HNE.out] at e8; subst e8)
            have hbk := ((HBx.out.alloc hbs (.cells #[.string (text kx), .int .i64 ix, .bool gx, .string (text vx)] 28)).grown hg' (by simp; omega) (fun z e => (HNx.out.lt z e).1))
            refine ⟨⟨k + 1, _, by omega, by go_num, rfl, by rw [HRR.out]; exact OwnL.mono ho' HB2.out.size, HB2.out.trans (hbk.mono HB2.out.size)⟩, ?_⟩
            simp [intOf]; omega
    · obtain rfl : m = k := by omega
      go_wp2
      go_ret
      exact ⟨_, rfl, by rw [HCS.out, HOE.out]; exact HO.out, HB2.out⟩
end Go.Proofs.YtjkifdjjcfempaaDoor
end

section
namespace Go.Proofs.YtjkifdjjcfempaaDoor
open Go.RowKit Go Go.Sort
set_option linter.unusedVariables false
set_option maxRecDepth 20000

/-- A write's place. -/
def Wr.pl (c : Wr) : List UInt8 × Int := (c.k, c.i)
theorem strictW : Strict (lexR Op.bytesLess ltI) := strictT.lex strictI
theorem ahead_lex (a b : Wr) : aheadS a b = lexR Op.bytesLess ltI a.pl b.pl := by
  unfold aheadS lexR ltI Wr.pl
  by_cases h : a.k = b.k
  · rw [if_neg (by simp [h]), if_pos h]
  · rw [if_pos (by simp [h]), if_neg h]
theorem ahead_tr {a b c : Wr} (h1 : aheadS a b = true) (h2 : aheadS b c = true) : aheadS a c = true := by
  rw [ahead_lex] at *; exact strictW.tr _ _ _ h1 h2
theorem ahead_irr (a : Wr) : aheadS a a = false := by rw [ahead_lex]; exact strictW.irr _
theorem ahead_asym {a b : Wr} (h : aheadS a b = true) : aheadS b a = false := by
  rw [ahead_lex] at *; exact strictW.asym h
theorem ahead_tot {a b : Wr} (h1 : aheadS a b = false) (h2 : aheadS b a = false) : a.pl = b.pl := by
  rw [ahead_lex] at *; exact strictW.tot _ _ h1 h2
theorem ahead_pl {a b : Wr} (h : a.pl = b.pl) : aheadS a b = false := by rw [ahead_lex, h]; exact strictW.irr _
theorem ahead_key {a b : Wr} (h : aheadS a b = true) : Op.bytesLess b.k a.k = false ∧ (a.k = b.k → a.i < b.i) := by
  unfold aheadS at h
  by_cases e : a.k = b.k
  · rw [if_neg (by simp [e])] at h
    exact ⟨by rw [e]; exact strictT.irr _, fun _ => by simpa using h⟩
  · rw [if_pos (by simp [e])] at h
    exact ⟨strictT.asym h, fun h => absurd h e⟩
/-- Sorted, and no two of one place. -/
def WS (l : List Wr) : Prop := l.Pairwise (fun a b => aheadS a b = true)
theorem cN_fold (x : Wr) (O : List Wr) : ∀ q, cN x O q = (O.take q).foldl (cstep x) ([], false) ∨ O.length < q
  | 0 => .inl rfl
  | q + 1 => by
    by_cases h : q < O.length
    · left
      rcases cN_fold x O q with e | e
      · show cstep x (cN x O q) (O.getD q Wr.zero) = _
        rw [List.take_add_one, List.foldl_append, e, List.getD_eq_getElem?_getD, List.getElem?_eq_getElem h]
        rfl
      · omega
    · right; omega
theorem cN_all (x : Wr) (O : List Wr) : cN x O O.length = O.foldl (cstep x) ([], false) := by
  rcases cN_fold x O O.length with e | e
  · rw [e, List.take_length]
  · omega
theorem fold_done (x : Wr) : ∀ (O N : List Wr), (∀ o ∈ O, aheadS o x = false) → O.foldl (cstep x) (N, true) = (N ++ O.filter (fun o => aheadS x o), true)
  | [], N, _ => by simp
  | o :: O, N, h => by
    have h1 := h o (List.mem_cons_self ..)
    rw [List.foldl_cons]
    have hs : cstep x (N, true) o = (if aheadS x o = true then N ++ [o] else N, true) := by
      unfold cstep
      simp only [Bool.not_true, Bool.false_and, h1, Bool.false_or]
      cases h2 : aheadS x o <;> simp
    rw [hs, fold_done x O _ fun o ho => h o (List.mem_cons_of_mem _ ho), List.filter_cons]
    cases h2 : aheadS x o <;> simp
theorem fold_open (x : Wr) : ∀ (O N : List Wr), WS O → (if (O.foldl (cstep x) (N, false)).2 = true then (O.foldl (cstep x) (N, false)).1 else (O.foldl (cstep x) (N, false)).1 ++ [x]) = N ++ (O.filter (fun o => aheadS o x) ++ x :: O.filter (fun o => aheadS x o))
  | [], N, _ => by simp
  | o :: O, N, h => by
    unfold WS at h
    rw [List.pairwise_cons] at h
    obtain ⟨h1, h2⟩ := h
    rw [List.foldl_cons]
    cases h3 : aheadS o x with
    | true =>
      have h4 := ahead_asym h3
      have hs : cstep x (N, false) o = (N ++ [o], false) := by
        unfold cstep
        simp [h3]
      rw [hs, fold_open x O _ h2, List.filter_cons, if_pos h3, List.filter_cons, if_neg (by rw [h4]; decide)]
      simp
    | false =>
      have hl : ∀ z ∈ O, aheadS z x = false := fun z hz => by
        cases h5 : aheadS z x with
        | false => rfl
        | true => rw [ahead_tr (h1 z hz) h5] at h3; cases h3
      have hs : cstep x (N, false) o = (if aheadS x o = true then N ++ [x] ++ [o] else N ++ [x], true) := by
        unfold cstep
        simp only [h3, Bool.not_false, Bool.and_self, if_true, Bool.false_or]
        cases h2 : aheadS x o <;> simp
      rw [hs, fold_done x O _ hl]
      simp only [if_true]
      have hn : (o :: O).filter (fun o => aheadS o x) = [] := List.filter_eq_nil_iff.2 fun z hz => by
        rcases List.mem_cons.1 hz with rfl | hz
        · rw [h3]; decide
        · rw [hl z hz]; decide
      rw [hn, List.filter_cons]
      cases h2 : aheadS x o <;> simp
theorem cins_eq {x : Wr} {O : List Wr} (h : WS O) : cinsS x O = O.filter (fun o => aheadS o x) ++ x :: O.filter (fun o => aheadS x o) := by
  unfold cinsS
  rw [cN_all, fold_open x O [] h, List.nil_append]
theorem cins_ws {x : Wr} {O : List Wr} (h : WS O) : WS (cinsS x O) := by
  rw [cins_eq h]
  unfold WS
  rw [List.pairwise_append, List.pairwise_cons]
  refine ⟨h.filter _, ⟨fun z hz => (List.mem_filter.1 hz).2, h.filter _⟩, fun a ha b hb => ?_⟩
  have h1 := (List.mem_filter.1 ha).2
  rcases List.mem_cons.1 hb with rfl | hb
  · exact h1
  · exact ahead_tr h1 (List.mem_filter.1 hb).2
theorem cins_mem {x z : Wr} {O : List Wr} (h : WS O) : z ∈ cinsS x O ↔ z = x ∨ (z ∈ O ∧ z.pl ≠ x.pl) := by
  rw [cins_eq h, List.mem_append, List.mem_cons, List.mem_filter, List.mem_filter]
  constructor
  · rintro (⟨h1, h2⟩ | rfl | ⟨h1, h2⟩)
    · exact .inr ⟨h1, fun e => by rw [ahead_pl e] at h2; cases h2⟩
    · exact .inl rfl
    · exact .inr ⟨h1, fun e => by rw [ahead_pl e.symm] at h2; cases h2⟩
  · rintro (rfl | ⟨h1, h2⟩)
    · exact .inr (.inl rfl)
    · cases h3 : aheadS z x with
      | true => exact .inl ⟨h1, rfl⟩
      | false =>
        cases h4 : aheadS x z with
        | true => exact .inr (.inr ⟨h1, rfl⟩)
        | false => exact absurd (ahead_tot h3 h4) h2
theorem ws_ext : ∀ {l m : List Wr}, WS l → WS m → (∀ z, z ∈ l ↔ z ∈ m) → l = m
  | [], [], _, _, _ => rfl
  | [], b :: m, _, _, h => by have := (h b).2 (List.mem_cons_self ..); cases this
  | a :: l, [], _, _, h => by have := (h a).1 (List.mem_cons_self ..); cases this
  | a :: l, b :: m, hl, hm, h => by
    unfold WS at hl hm
    rw [List.pairwise_cons] at hl hm
    have e : a = b := by
      rcases List.mem_cons.1 ((h a).1 (List.mem_cons_self ..)) with e | ha
      · exact e
      · rcases List.mem_cons.1 ((h b).2 (List.mem_cons_self ..)) with e | hb
        · exact e.symm
        · have := ahead_asym (hl.1 b hb)
          rw [hm.1 a ha] at this
          cases this
    subst e
    rw [ws_ext hl.2 hm.2 fun z => ⟨fun hz => ?_, fun hz => ?_⟩]
    · rcases List.mem_cons.1 ((h z).1 (List.mem_cons_of_mem _ hz)) with e | hz'
      · have := hl.1 z hz
        rw [e, ahead_irr] at this
        cases this
      · exact hz'
    · rcases List.mem_cons.1 ((h z).2 (List.mem_cons_of_mem _ hz)) with e | hz'
      · have := hm.1 z hz
        rw [e, ahead_irr] at this
        cases this
      · exact hz'
theorem canonN_ws (l : List Wr) : ∀ k, WS (canonN l k)
  | 0 => List.Pairwise.nil
  | k + 1 => cins_ws (canonN_ws l k)
theorem canon_ws (l : List Wr) : WS (canonS l) := canonN_ws l _
theorem canonN_take {l : List Wr} (h : WS l) : ∀ k, k ≤ l.length → canonN l k = l.take k
  | 0, _ => rfl
  | k + 1, hk => by
    show cinsS (l.getD k Wr.zero) (canonN l k) = _
    rw [canonN_take h k (by omega)]
    have hx : l[k]? = some (l.getD k Wr.zero) := by rw [List.getD_eq_getElem?_getD, List.getElem?_eq_getElem (by omega)]; rfl
    have hws : WS (l.take (k + 1)) := List.Pairwise.sublist (List.take_sublist _ _) h
    rw [List.take_add_one, hx] at hws ⊢
    unfold WS at hws
    rw [List.pairwise_append] at hws
    have ha : ∀ z ∈ l.take k, aheadS z (l.getD k Wr.zero) = true := fun z hz => hws.2.2 z hz _ (by simp)
    rw [cins_eq hws.1, List.filter_eq_self.2 ha, List.filter_eq_nil_iff.2 (fun z hz => by rw [ahead_asym (ha z hz)]; decide)]
    rfl
theorem canon_same {l : List Wr} (h : WS l) : canonS l = l := by
  unfold canonS
  rw [canonN_take h _ (Nat.le_refl _), List.take_length]
theorem canon_again (l : List Wr) : canonS (canonS l) = canonS l := canon_same (canon_ws l)
theorem canonN_fold (l : List Wr) : ∀ k, k ≤ l.length → canonN l k = (l.take k).foldl (fun O x => cinsS x O) []
  | 0, _ => rfl
  | k + 1, hk => by
    show cinsS (l.getD k Wr.zero) (canonN l k) = _
    rw [canonN_fold l k (by omega), List.take_add_one, List.foldl_append, List.getD_eq_getElem?_getD, List.getElem?_eq_getElem (by omega)]
    rfl
theorem canon_fold (l : List Wr) : canonS l = l.foldl (fun O x => cinsS x O) [] := by
  unfold canonS
  rw [canonN_fold l _ (Nat.le_refl _), List.take_length]
theorem fold_ws : ∀ (l O : List Wr), WS O → WS (l.foldl (fun O x => cinsS x O) O)
  | [], O, h => h
  | x :: l, O, h => fold_ws l _ (cins_ws h)
theorem cins_swap {a b : Wr} {O : List Wr} (h : WS O) (hp : a.pl ≠ b.pl) : cinsS b (cinsS a O) = cinsS a (cinsS b O) := by
  refine ws_ext (cins_ws (cins_ws h)) (cins_ws (cins_ws h)) fun z => ?_
  rw [cins_mem (cins_ws h), cins_mem h, cins_mem (cins_ws h), cins_mem h]
  constructor
  · rintro (rfl | ⟨rfl | ⟨h1, h2⟩, h3⟩)
    · exact .inr ⟨.inl rfl, fun e => hp e.symm⟩
    · exact .inl rfl
    · exact .inr ⟨.inr ⟨h1, h3⟩, h2⟩
  · rintro (rfl | ⟨rfl | ⟨h1, h2⟩, h3⟩)
    · exact .inr ⟨.inl rfl, hp⟩
    · exact .inl rfl
    · exact .inr ⟨.inr ⟨h1, h3⟩, h2⟩
theorem canon_swap (p s : List Wr) {a b : Wr} (hp : a.pl ≠ b.pl) : canonS (p ++ a :: b :: s) = canonS (p ++ b :: a :: s) := by
  rw [canon_fold, canon_fold, List.foldl_append, List.foldl_append, List.foldl_cons, List.foldl_cons, List.foldl_cons, List.foldl_cons]
  rw [cins_swap (fold_ws p [] List.Pairwise.nil) hp]
/-- Sorted: each behind the one ahead of it. -/
theorem ws_next {l : List Wr} (h : WS l) {k : Nat} (hk : k + 1 < l.length) : aheadS (l.getD k Wr.zero) (l.getD (k + 1) Wr.zero) = true := by
  rw [List.getD_eq_getElem?_getD, List.getD_eq_getElem?_getD, List.getElem?_eq_getElem (by omega), List.getElem?_eq_getElem hk]
  exact List.pairwise_iff_getElem.1 h k (k + 1) (by omega) hk (by omega)
theorem ws_of : ∀ {l : List Wr}, (∀ k, k + 1 < l.length → aheadS (l.getD k Wr.zero) (l.getD (k + 1) Wr.zero) = true) → WS l
  | [], _ => List.Pairwise.nil
  | [a], _ => List.pairwise_singleton _ _
  | a :: b :: l, h => by
    have hr : WS (b :: l) := ws_of fun k hk => h (k + 1) (by simp at hk ⊢; omega)
    have h0 : aheadS a b = true := h 0 (by simp)
    unfold WS at hr ⊢
    rw [List.pairwise_cons]
    refine ⟨fun z hz => ?_, hr⟩
    rcases List.mem_cons.1 hz with rfl | hz
    · exact h0
    · exact ahead_tr h0 ((List.pairwise_cons.1 hr).1 z hz)
end Go.Proofs.YtjkifdjjcfempaaDoor
end

section
namespace Go.Proofs.YtjkifdjjcfempaaDoor
open Go.RowKit Go Go.Sort
set_option linter.unusedVariables false
set_option maxRecDepth 20000

/-- What order tells. -/
def ordS (a b : Wr) : Int := cmp3 (aheadS a b) (aheadS b a)
theorem ord_neg (a b : Wr) : decide (ordS a b < 0) = aheadS a b := by
  unfold ordS cmp3
  cases aheadS a b <;> cases aheadS b a <;> rfl
theorem ord_geq (a b : Wr) : decide (ordS a b ≥ 0) = !aheadS a b := by
  unfold ordS cmp3
  cases aheadS a b <;> cases aheadS b a <;> rfl
theorem ord_or (a b : Wr) : or2 (cmp3 (Op.bytesLess a.k b.k) (!(a.k == b.k))) (cmp3 (decide (a.i < b.i)) (decide (b.i < a.i))) = ordS a b := by
  have S : Strict Op.bytesLess := strictT
  unfold ordS aheadS or2
  by_cases h : a.k = b.k
  · rw [h, S.irr]
    simp [cmp3]
  · have h1 : (a.k == b.k) = false := by simpa using h
    have h2 : (b.k == a.k) = false := by simpa using fun e => h e.symm
    rw [h1, h2]
    simp only [if_true]
    cases ha : Op.bytesLess a.k b.k with
    | true => simp [cmp3]
    | false =>
      cases hb : Op.bytesLess b.k a.k with
      | true => simp [cmp3]
      | false => exact absurd (S.tot _ _ ha hb) h
theorem wr_cells' {W : World} {q : Nat} {k v : ByteArray} {i : Int} {g : Bool} (h : W.heap[q]? = some (.cells #[.string k, .int .i64 i, .bool g, .string v] 28 (0, 0))) : W.cell? ⟨q, 0, none⟩ = some (.string k) ∧ W.cell? ⟨q, 1, none⟩ = some (.int .i64 i) ∧ W.cell? ⟨q, 2, none⟩ = some (.bool g) ∧ W.cell? ⟨q, 3, none⟩ = some (.string v) := by
  refine ⟨?_,?_,?_,?_⟩ <;> (rw [cell_of_row _ q _ _ _ (0, 0) h]; rfl)
set_option maxHeartbeats 3200000 in
theorem order_c (k : List UInt8) (i : Int) (g : Bool) (v : List UInt8) (k' : List UInt8) (i' : Int) (g' : Bool) (v' : List UInt8) (w : World) : Calls Tryd.prog 17 #[.agg #[.string (text k), .int .i64 i, .bool g, .string (text v)], .agg #[.string (text k'), .int .i64 i', .bool g', .string (text v')]] w (Tells (.int .i64 (ordS ⟨k, i, g, v⟩ ⟨k', i', g', v'⟩)) w) := by
  have hp := heap_below (heap_alloc_new w (.cells #[.string (text k), .int .i64 i, .bool g, .string (text v)] 28)) (alloc_below (w.alloc (.cells #[.string (text k), .int .i64 i, .bool g, .string (text v)] 28)) (.cells #[.string (text k'), .int .i64 i', .bool g', .string (text v')] 28))
  have hq := heap_alloc_new (w.alloc (.cells #[.string (text k), .int .i64 i, .bool g, .string (text v)] 28)) (.cells #[.string (text k'), .int .i64 i', .bool g', .string (text v')] 28)
  simp only [World.size_alloc] at hq
  have HB := Lib.hid ((alloc_below w (.cells #[.string (text k), .int .i64 i, .bool g, .string (text v)] 28)).alloc (by simp) (.cells #[.string (text k'), .int .i64 i', .bool g', .string (text v')] 28))
  have HR := Lib.hid (ord_or ⟨k, i, g, v⟩ ⟨k', i', g', v'⟩)
  have h1 := fun W => cmps_c (text k) (text k') W
  have h2 := fun W => cmpi_c i i' W
  simp only [text_toList] at h1 HR
  obtain ⟨X1, hX1⟩ : ∃ z, cmp3 (Op.bytesLess k k') (!(k == k')) = z := ⟨_, rfl⟩
  obtain ⟨X2, hX2⟩ : ∃ z, cmp3 (decide (i < i')) (decide (i' < i)) = z := ⟨_, rfl⟩
  rw [hX1, hX2] at HR
  simp only [hX1] at h1
  simp only [hX2] at h2
  have h3 := fun (v : Value) (W : World) (h : Ints2 X1 X2 v W) => cmpor_c X1 X2 v h
  obtain ⟨R, hR⟩ : ∃ z, or2 X1 X2 = z := ⟨_, rfl⟩
  simp only [hR] at h3 HR
  obtain ⟨u, hu⟩ : ∃ u, text k = u := ⟨_, rfl⟩
  obtain ⟨u', hu'⟩ : ∃ u, text k' = u := ⟨_, rfl⟩
  simp only [hu, hu'] at h1 hp hq HB ⊢
  have H1 := Lib.hid h1
  have H2 := Lib.hid h2
  have HOR := Lib.hid h3
  have HA0 := Lib.hid (fun W (h : Below (w.heap.size + 1 + 1) ((w.alloc (.cells #[.string u, .int .i64 i, .bool g, .string (text v)] 28)).alloc (.cells #[.string u', .int .i64 i', .bool g', .string (text v')] 28)) W) => (heap_below hp (by simpa using h)))
  have HC0 := Lib.hid (fun W (h : Below (w.heap.size + 1 + 1) ((w.alloc (.cells #[.string u, .int .i64 i, .bool g, .string (text v)] 28)).alloc (.cells #[.string u', .int .i64 i', .bool g', .string (text v')] 28)) W) => (heap_below hq (by simpa using h)))
  clear hp hq h1 h2 h3 hX1 hX2 hR hu hu'
  go_enter Tryd.func17, Tryd.ntmps17
  go_upto_region 1 with (fail)
  obtain ⟨B, hB⟩ : ∃ q, w.heap.size = q := ⟨_, rfl⟩
  have HW1 : ((w.alloc (.cells #[.string u, .int .i64 i, .bool g, .string (text v)] 28)).alloc (.cells #[.string u', .int .i64 i', .bool g', .string (text v')] 28)).heap.size = B + 1 + 1 := by simp [hB]
  have HBe := Lib.hid hB
  rw [hB] at HA0 HC0 ⊢
  clear hB
  generalize (w.alloc (.cells #[.string u, .int .i64 i, .bool g, .string (text v)] 28)).alloc (.cells #[.string u', .int .i64 i', .bool g', .string (text v')] 28) = W1 at *
  have HA := Lib.hid (fun W (h : Below W1.heap.size W1 W) => by
    obtain ⟨c0, c1, -⟩ := wr_cells' (HA0.out W (by rwa [HW1] at h))
    exact And.intro c0 c1)
  have HC := Lib.hid (fun W (h : Below W1.heap.size W1 W) => by
    obtain ⟨c0, c1, -⟩ := wr_cells' (HC0.out W (by rwa [HW1] at h))
    exact And.intro c0 c1)
  clear HA0 HC0 HW1
  refine wp_region_flow [none,none,none,none, some 12, some 0, some 1, some 2, some 3, some 4, some 5, some 6, some 7, some 8, some 9, some 10, some 11] (fun i => [undef,undef,undef,undef,undef,undef,undef,undef,undef,undef,undef,undef, .int .i64 0].getD i undef) [(fun v _ => v = .pointer (some ⟨B, 0, none⟩)), (fun v _ => v = .string u), (fun v _ => v = .pointer (some ⟨B + 1, 0, none⟩)), (fun v _ => v = .string u'), (fun v _ => v = .int .i64 X1), (fun v _ => v = .pointer (some ⟨B, 1, none⟩)), (fun v _ => v = .int .i64 i), (fun v _ => v = .pointer (some ⟨B + 1, 1, none⟩)), (fun v _ => v = .int .i64 i'), (fun v _ => v = .int .i64 X2), (Ints2 X1 X2), (fun v _ => v = .int .i64 R), (fun v _ => v = .int .i64 R)] (by kernel_rfl) (by kernel_rfl) rfl rfl rfl ?_ ?_ ?_
  · intro g hg v X Y hX hY hv
    simp only [List.mem_cons, List.not_mem_nil, or_false] at hg
    rcases hg with rfl | rfl | rfl | rfl | rfl | rfl | rfl | rfl | rfl | rfl | rfl | rfl | rfl
    all_goals first
      | exact hv
      | exact hv.kept hY
  · simp only [flowOps, and_true]
    refine ⟨?_,?_,?_,?_,?_,?_,?_,?_,?_,?_,?_,?_,?_⟩
    · intro xs W hW hn
      simp only [flowAct, zwc, zwn]
      go_wp2_with (fail)
      exact ⟨rfl, _, rfl, Below.refl _ _, rfl⟩
    · intro xs W hW hn
      have hc := HA.out W hW
      obtain ⟨c0, c1⟩ := hc
      simp [flowNeeds, Region.binds] at hn
      simp only [flowAct, zwc, zwn]
      try simp only [hn]
      go_wp2_with (fail)
      exact ⟨rfl, _, rfl, Below.refl _ _, rfl⟩
    · intro xs W hW hn
      simp only [flowAct, zwc, zwn]
      go_wp2_with (fail)
      exact ⟨rfl, _, rfl, Below.refl _ _, rfl⟩
    · intro xs W hW hn
      have hc := HC.out W hW
      obtain ⟨c0, c1⟩ := hc
      simp [flowNeeds, Region.binds] at hn
      simp only [flowAct, zwc, zwn]
      try simp only [hn]
      go_wp2_with (fail)
      exact ⟨rfl, _, rfl, Below.refl _ _, rfl⟩
    · intro xs W hW hn
      simp [flowNeeds, Region.binds] at hn
      simp only [flowAct, zwc, zwn]
      try simp only [hn]
      go_wp2_with (go_at_call 28; (with_reducible refine (H1.out _).mono ?_); rintro e9 w9 ⟨rfl, rfl⟩)
      exact ⟨rfl, _, rfl, Below.refl _ _, rfl⟩
    · intro xs W hW hn
      simp only [flowAct, zwc, zwn]
      go_wp2_with (fail)
      exact ⟨rfl, _, rfl, Below.refl _ _, rfl⟩
    · intro xs W hW hn
      have hc := HA.out W hW
      obtain ⟨c0, c1⟩ := hc
      simp [flowNeeds, Region.binds] at hn
      simp only [flowAct, zwc, zwn]
      try simp only [hn]
      go_wp2_with (fail)
      exact ⟨rfl, _, rfl, Below.refl _ _, rfl⟩
    · intro xs W hW hn
      simp only [flowAct, zwc, zwn]
      go_wp2_with (fail)
      exact ⟨rfl, _, rfl, Below.refl _ _, rfl⟩
    · intro xs W hW hn
      have hc := HC.out W hW
      obtain ⟨c0, c1⟩ := hc
      simp [flowNeeds, Region.binds] at hn
      simp only [flowAct, zwc, zwn]
      try simp only [hn]
      go_wp2_with (fail)
      exact ⟨rfl, _, rfl, Below.refl _ _, rfl⟩
    · intro xs W hW hn
      simp [flowNeeds, Region.binds] at hn
      simp only [flowAct, zwc, zwn]
      try simp only [hn]
      go_wp2_with (go_at_call 29; (with_reducible refine (H2.out _).mono ?_); rintro e9 w9 ⟨rfl, rfl⟩)
      exact ⟨rfl, _, rfl, Below.refl _ _, rfl⟩
    · intro xs W hW hn
      simp [flowNeeds, Region.binds] at hn
      simp only [flowAct, zwc, zwn]
      try simp only [hn]
      go_wp2_with (fail)
      exact ⟨rfl, _, rfl, alloc_below _ _, ⟨_, _, rfl, heap_alloc_new _ _⟩⟩
    · intro xs W hW hn
      simp [flowNeeds, Region.binds] at hn
      obtain ⟨hv9, h9⟩ := hn
      simp only [flowAct, zwc, zwn]
      try simp only [h9]
      go_wp2_with (go_at_call 27; (with_reducible refine (HOR.out _ _ hv9).mono ?_); rintro e9 w9 ⟨rfl, rfl⟩)
      exact ⟨rfl, _, rfl, Below.refl _ _, rfl⟩
    · intro xs W hW hn
      simp [flowNeeds, Region.binds] at hn
      simp only [flowAct, zwc, zwn]
      try simp only [hn]
      go_wp2_with (fail)
      exact ⟨rfl, _, rfl, Below.refl _ _, rfl⟩
  · intro xs W hW hall
    simp only [flowAll, and_true, Nat.zero_add, Nat.reduceAdd] at hall
    obtain ⟨-,-,-,-,-,-,-,-,-,-,-,-, e12⟩ := hall
    simp only [flowAct, zwc, zwn]
    simp only [e12]
    go_wp2
    go_ret
    exact ⟨by rw [HR.out]; rfl, HB.out.trans (hW.mono HB.out.size)⟩
theorem keyS_dec (k : List UInt8) : decide (keyS k = 0) = (!(k == []) && decide (k.length ≤ 32)) := by
  unfold keyS
  by_cases h : k = []
  · subst h; rfl
  · have hb : (k == []) = false := by simpa using h
    rw [if_neg h, hb]
    by_cases h2 : 32 < k.length
    · rw [if_pos h2]; simp; omega
    · rw [if_neg h2]; simp; omega
set_option maxHeartbeats 3200000 in
theorem cgoodwrite_c (n1 : Nat) (k : List UInt8) (i : Int) (g : Bool) (v : List UInt8) (hk : k.length ≤ 9223372036854775807) (hvl : v.length ≤ 9223372036854775807) (w : World) :
    Calls Tryd.prog 34 #[.int .i64 (n1 : Int), .agg #[.string (text k), .int .i64 i, .bool g, .string (text v)]] w (Tells (.bool (mayS n1 ⟨k, i, g, v⟩)) w) := by
  have hp := heap_alloc_new w (.cells #[.string (text k), .int .i64 i, .bool g, .string (text v)] 28)
  have HB := Lib.hid (alloc_below w (.cells #[.string (text k), .int .i64 i, .bool g, .string (text v)] 28))
  have HV0 := Lib.hid (show mayS n1 ⟨k, i, g, v⟩ = (decide (keyS k = 0) && (decide (0 ≤ i) && (decide (i < (n1 : Int)) && (decide (v.length ≤ 64) && (!g || v == []))))) from rfl)
  rw [keyS_dec] at HV0
  obtain ⟨r, hr⟩ : ∃ r, mayS n1 ⟨k, i, g, v⟩ = r := ⟨_, rfl⟩
  rw [hr] at HV0 ⊢
  have htn := text_nilb v
  have htk := text_nilb k
  have hsz : ((text v).size : Int) = (v.length : Int) := by rw [text_size]
  have hsk : ((text k).size : Int) = (k.length : Int) := by rw [text_size]
  have HVB := Lib.hid (show (v == []) = true → v.length = 0 from fun h => by
    have : v = [] := by simpa using h
    rw [this]
    rfl)
  obtain ⟨p0, p1, p2, p3⟩ := wr_cells hp
  obtain ⟨vb, hvb⟩ : ∃ z, (v == []) = z := ⟨_, rfl⟩
  obtain ⟨vl, hvl2⟩ : ∃ z, v.length = z := ⟨_, rfl⟩
  obtain ⟨kb, hkb⟩ : ∃ z, (k == []) = z := ⟨_, rfl⟩
  obtain ⟨kl, hkl2⟩ : ∃ z, k.length = z := ⟨_, rfl⟩
  obtain ⟨tv, htv⟩ : ∃ z, text v = z := ⟨_, rfl⟩
  obtain ⟨tx, htx⟩ : ∃ z, text k = z := ⟨_, rfl⟩
  rw [hvb, hvl2, hkb, hkl2] at HV0
  rw [hvb, hvl2] at HVB
  rw [hvb] at htn
  rw [hkb] at htk
  rw [hvl2] at hsz
  rw [hkl2] at hsk
  simp only [htv, htx] at htn htk hsz hsk p0 p1 p2 p3 HB ⊢
  clear hp hr hvb hvl2 htv htx hk hvl hkb hkl2
  by_cases h0 : kb = true
  · subst h0
    have HV := Lib.hid (show r = false by rw [HV0.out]; simp)
    clear HV0
    go_enter Tryd.func34, Tryd.ntmps34
    go_wp2
    go_ret
    exact ⟨by rw [HV.out]; rfl, HB.out⟩
  · have h0 : kb = false := by simpa using h0
    subst h0
    by_cases h1 : kl ≤ 32
    · have h1i : ¬ (32 : Int) < (kl : Int) := by omega
      by_cases h2 : i < 0
      · have HV := Lib.hid (show r = false by rw [HV0.out]; simp; omega)
        clear HV0
        go_enter Tryd.func34, Tryd.ntmps34
        go_wp2
        go_ret
        exact ⟨by rw [HV.out]; rfl, HB.out⟩
      · by_cases h3 : (n1 : Int) ≤ i
        · have HV := Lib.hid (show r = false by rw [HV0.out]; simp; omega)
          clear HV0
          go_enter Tryd.func34, Tryd.ntmps34
          go_wp2
          go_ret
          exact ⟨by rw [HV.out]; rfl, HB.out⟩
        · have h2' : 0 ≤ i := by omega
          have h3' : i < (n1 : Int) := by omega
          cases g with
          | true =>
            cases vb with
            | true =>
              have hv0 := HVB.out rfl
              have HV := Lib.hid (show r = true by rw [HV0.out]; simp [h1, h2', h3', hv0])
              clear HV0 h2' h3' hv0
              go_enter Tryd.func34, Tryd.ntmps34
              go_wp2
              go_ret
              exact ⟨by rw [HV.out]; rfl, HB.out⟩
            | false =>
              have HV := Lib.hid (show r = false by rw [HV0.out]; simp)
              clear HV0 h2' h3'
              go_enter Tryd.func34, Tryd.ntmps34
              go_wp2
              go_ret
              exact ⟨by rw [HV.out]; rfl, HB.out⟩
          | false =>
            by_cases h4 : vl ≤ 64
            · have h4i : (vl : Int) ≤ 64 := by omega
              have HV := Lib.hid (show r = true by rw [HV0.out]; simp [h1, h2', h3', h4])
              clear HV0 h2' h3'
              go_enter Tryd.func34, Tryd.ntmps34
              go_wp2
              go_ret
              exact ⟨by rw [HV.out]; rfl, HB.out⟩
            · have h4i : ¬ (vl : Int) ≤ 64 := by omega
              have HV := Lib.hid (show r = false by rw [HV0.out]; simp [h4])
              clear HV0 h2' h3'
              go_enter Tryd.func34, Tryd.ntmps34
              go_wp2
              go_ret
              exact ⟨by rw [HV.out]; rfl, HB.out⟩
    · have h1i : (32 : Int) < (kl : Int) := by omega
      have HV := Lib.hid (show r = false by rw [HV0.out]; simp [h1])
      clear HV0
      go_enter Tryd.func34, Tryd.ntmps34
      go_wp2
      go_ret
      exact ⟨by rw [HV.out]; rfl, HB.out⟩
end Go.Proofs.YtjkifdjjcfempaaDoor
end

section
namespace Go.Proofs.YtjkifdjjcfempaaDoor
open Go.RowKit Go Go.Sort
set_option linter.unusedVariables false
set_option maxRecDepth 20000

def goodHeadS (site seq n s a b : Int) : Bool := (site == 1 || site == 2) && (sgood n s && (s == site)) && (vgood a b && (decide (1 ≤ seq) && (seq == (if site = 1 then a else b))))
def gwsS (n1 : Nat) (l : List Wr) : Bool := decide (1 ≤ l.length) && (decide (l.length ≤ 8) && (List.range l.length).all (wAt n1 l))
theorem vgood_max {a b : Int} (h : vgood a b = true) : a ≤ 1099511627776 ∧ b ≤ 1099511627776 := by
  simp [vgood] at h
  omega
theorem head_eq (site seq n s a b : Int) (m : Nat) : headBad site seq n s a b m = !(goodHeadS site seq n s a b && (decide (1 ≤ m) && decide (m ≤ 8))) := by
  unfold headBad goodHeadS
  by_cases h1 : site = 1
  · subst h1
    by_cases h9 : s = 1
    · subst h9
      cases hv : vgood a b with
      | true =>
        have := vgood_max hv
        cases sgood n 1 <;> rw [Bool.eq_iff_iff] <;> simp <;> omega
      | false => simp
    · have : (s == 1) = false := by simpa using h9
      simp [this, h9]
  · by_cases h2 : site = 2
    · subst h2
      by_cases h9 : s = 2
      · subst h9
        cases hv : vgood a b with
        | true =>
          have := vgood_max hv
          cases sgood n 2 <;> rw [Bool.eq_iff_iff] <;> simp <;> omega
        | false => simp
      · have : (s == 2) = false := by simpa using h9
        simp [this, h9]
    · have e1 : (site == 1) = false := by simpa using h1
      have e2 : (site == 2) = false := by simpa using h2
      simp [bne, e1, e2]
theorem gws_no {n1 : Nat} {l : List Wr} {k : Nat} (hk : k < l.length) (h : wAt n1 l k = false) : gwsS n1 l = false := by
  unfold gwsS
  have : (List.range l.length).all (wAt n1 l) = false := by
    cases hb : (List.range l.length).all (wAt n1 l) with
    | false => rfl
    | true =>
      have := List.all_eq_true.1 hb k (List.mem_range.2 hk)
      rw [h] at this
      cases this
  rw [this]
  simp
theorem gws_yes {n1 : Nat} {l : List Wr} (h1 : 1 ≤ l.length) (h8 : l.length ≤ 8) (h : ∀ k, k < l.length → wAt n1 l k = true) : gwsS n1 l = true := by
  unfold gwsS
  have : (List.range l.length).all (wAt n1 l) = true := List.all_eq_true.2 fun k hk => h k (List.mem_range.1 hk)
  rw [this]
  simp [h1, h8]
theorem chgood_eq (gs : List Grp) (site seq n s a b : Int) (l : List Wr) : chgoodS gs site seq n s a b l = if ¬ pgoodS gs = 0 then pgoodS gs else if (goodHeadS site seq n s a b && gwsS gs.length l) = true then 0 else 120 := by
  unfold chgoodS
  rw [head_eq]
  unfold gwsS
  by_cases h : pgoodS gs = 0
  · rw [if_neg (not_not_intro h), if_neg (not_not_intro h)]
    cases goodHeadS site seq n s a b <;> cases decide (1 ≤ l.length) <;> cases decide (l.length ≤ 8) <;> simp
  · rw [if_pos h, if_pos h]
theorem ch_cells' {W : World} {q : Nat} {site seq n s a b : Int} {x2 : Option Addr} {m cap2 : Nat} (h : W.heap[q]? = some (.cells #[.int .i64 site, .int .i64 seq, .int .i64 n, .int .i64 s, .int .i64 a, .int .i64 b, .slice x2 m cap2] 39 (0, 0))) : W.cell? ⟨q, 0, none⟩ = some (.int .i64 site) ∧ W.cell? ⟨q, 1, none⟩ = some (.int .i64 seq) ∧ W.cell? ⟨q, 2, none⟩ = some (.int .i64 n) ∧ W.cell? ⟨q, 3, none⟩ = some (.int .i64 s) ∧ W.cell? ⟨q, 4, none⟩ = some (.int .i64 a) ∧ W.cell? ⟨q, 5, none⟩ = some (.int .i64 b) := by
  obtain ⟨c0, c1, c2, c3, c4, c5, -⟩ := ch_cells h
  exact ⟨c0, c1, c2, c3, c4, c5⟩
set_option maxHeartbeats 12800000 in
theorem goodhead_c (site seq n s a b : Int) (x2 : Option Addr) (m cap2 : Nat) (w : World) : Calls Tryd.prog 20 #[.agg #[.int .i64 site, .int .i64 seq, .int .i64 n, .int .i64 s, .int .i64 a, .int .i64 b, .slice x2 m cap2]] w (Tells (.bool (goodHeadS site seq n s a b)) w) := by
  have HB0 := Lib.hid (alloc_below w (.cells #[.int .i64 site, .int .i64 seq, .int .i64 n, .int .i64 s, .int .i64 a, .int .i64 b, .slice x2 m cap2] 39))
  have hr := heap_alloc_new w (.cells #[.int .i64 site, .int .i64 seq, .int .i64 n, .int .i64 s, .int .i64 a, .int .i64 b, .slice x2 m cap2] 39)
  have HC0 := Lib.hid (fun W (h : Below (w.alloc (.cells #[.int .i64 site, .int .i64 seq, .int .i64 n, .int .i64 s, .int .i64 a, .int .i64 b, .slice x2 m cap2] 39)).heap.size (w.alloc (.cells #[.int .i64 site, .int .i64 seq, .int .i64 n, .int .i64 s, .int .i64 a, .int .i64 b, .slice x2 m cap2] 39)) W) => ch_cells' (heap_below hr h))
  obtain ⟨c0, c1, c2, c3, c4, c5⟩ := ch_cells' hr
  clear hr
  by_cases h1 : site = 1
  · subst h1
    have HRR0 := Lib.hid (show goodHeadS 1 seq n s a b = ((sgood n s && (s == 1)) && (vgood a b && (decide (1 ≤ seq) && (seq == a)))) from by simp [goodHeadS])
    obtain ⟨r, hr⟩ : ∃ r, goodHeadS 1 seq n s a b = r := ⟨_, rfl⟩
    rw [hr] at HRR0 ⊢
    have hsg := fun W => sgood_c n s W
    have hvg := fun W => vgood_c a b W
    obtain ⟨SG, hSG⟩ : ∃ z, sgood n s = z := ⟨_, rfl⟩
    obtain ⟨VG, hVG⟩ : ∃ z, vgood a b = z := ⟨_, rfl⟩
    rw [hSG, hVG] at HRR0
    simp only [hSG] at hsg
    simp only [hVG] at hvg
    have HSG := Lib.hid hsg
    have HVG := Lib.hid hvg
    clear hr hSG hVG hsg hvg
    cases SG with
    | false =>
      have HRR := Lib.hid (show r = false by rw [HRR0.out]; rfl)
      clear HRR0
      go_enter Tryd.func20, Tryd.ntmps20
      go_upto_region 4 with (go_at_call 32; (with_reducible refine (HSG.out _).mono ?_); rintro e9 w2 ⟨rfl, hb2⟩)
      have HB1 := Lib.hid (HB0.out.trans (hb2.mono HB0.out.size))
      have HCW := Lib.hid (fun W (h : Below w2.heap.size w2 W) => HC0.out W (hb2.trans (h.mono hb2.size)))
      clear hb2 HB0 HC0 HSG c0 c1 c2 c3 c4 c5
      obtain ⟨B, hB⟩ : ∃ z, w.heap.size = z := ⟨_, rfl⟩
      simp only [hB] at HCW ⊢
      have HBe := Lib.hid hB
      clear hB
      refine wp_region_flow [none,none, some 22, none,none,none,none,none,none,none,none,none,none,none,none,none,none,none,none,none,none,none,none, some 0, some 1, some 2, some 3, some 4, some 5, some 6, some 7, some 8, some 9, some 10, some 11, some 12, some 13, some 14, some 15, some 16, some 17, some 18, some 19, some 20, some 21] (fun i => [undef,undef,undef,undef,undef,undef,undef,undef,undef,undef,undef,undef,undef,undef,undef,undef,undef,undef,undef,undef,undef,undef, .bool false].getD i undef) [(fun v _ => v = .bool false), (fun v _ => v = .bool false), (fun v _ => v = undef), (fun v _ => v = undef), (fun v _ => v = undef), (fun v _ => v = .bool false), (fun v _ => v = .bool false), (fun v _ => v = undef), (fun v _ => v = undef), (fun v _ => v = undef), (fun v _ => v = .bool false), (fun v _ => v = .bool false), (fun v _ => v = undef), (fun v _ => v = undef), (fun v _ => v = undef), (fun v _ => v = undef), (fun v _ => v = undef), (fun v _ => v = undef), (fun v _ => v = undef), (fun v _ => v = undef), (fun v _ => v = undef), (fun v _ => v = .bool false), (fun v _ => v = .bool false)] (by kernel_rfl) (by kernel_rfl) rfl rfl rfl ?_ ?_ ?_
      · intro g hg v X Y hX hY hv
        simp only [List.mem_cons, List.not_mem_nil, or_false] at hg
        rcases hg with rfl | rfl | rfl | rfl | rfl | rfl | rfl | rfl | rfl | rfl | rfl | rfl | rfl | rfl | rfl | rfl | rfl | rfl | rfl | rfl | rfl | rfl | rfl
        all_goals first
          | exact hv
          | exact hv.kept hY
      · simp only [flowOps, and_true]
        refine ⟨?_,?_,?_,?_,?_,?_,?_,?_,?_,?_,?_,?_,?_,?_,?_,?_,?_,?_,?_,?_,?_,?_,?_⟩
        · intro xs W hW hn
          simp only [flowAct, zwc, zwn]
          go_wp2_with (fail)
          exact ⟨rfl, _, rfl, Below.refl _ _, rfl⟩
        · intro xs W hW hn
          simp [flowNeeds, Region.binds] at hn
          simp only [flowAct, zwc, zwn]
          try simp only [hn]
          go_wp2_with (fail)
          exact ⟨rfl, _, rfl, Below.refl _ _, rfl⟩
        · intro xs W hW hn
          simp [flowNeeds, Region.binds] at hn
          simp only [flowAct, zwc, zwn]
          try simp only [hn]
          go_wp2_with (fail)
          exact ⟨rfl, _, rfl, Below.refl _ _, rfl⟩
        · intro xs W hW hn
          simp [flowNeeds, Region.binds] at hn
          simp only [flowAct, zwc, zwn]
          try simp only [hn]
          go_wp2_with (fail)
          exact ⟨rfl, _, rfl, Below.refl _ _, rfl⟩
        · intro xs W hW hn
          simp [flowNeeds, Region.binds] at hn
          simp only [flowAct, zwc, zwn]
          try simp only [hn]
          go_wp2_with (fail)
          exact ⟨rfl, _, rfl, Below.refl _ _, rfl⟩
        · intro xs W hW hn
          simp [flowNeeds, Region.binds] at hn
          simp only [flowAct, zwc, zwn]
          try simp only [hn]
          go_wp2_with (fail)
          exact ⟨rfl, _, rfl, Below.refl _ _, rfl⟩
        · intro xs W hW hn
          simp [flowNeeds, Region.binds] at hn
          simp only [flowAct, zwc, zwn]
          try simp only [hn]
          go_wp2_with (fail)
          exact ⟨rfl, _, rfl, Below.refl _ _, rfl⟩
        · intro xs W hW hn
          simp [flowNeeds, Region.binds] at hn
          simp only [flowAct, zwc, zwn]
          try simp only [hn]
          go_wp2_with (fail)
          exact ⟨rfl, _, rfl, Below.refl _ _, rfl⟩
        · intro xs W hW hn
          simp [flowNeeds, Region.binds] at hn
          simp only [flowAct, zwc, zwn]
          try simp only [hn]
          go_wp2_with (fail)
          exact ⟨rfl, _, rfl, Below.refl _ _, rfl⟩
        · intro xs W hW hn
          simp [flowNeeds, Region.binds] at hn
          simp only [flowAct, zwc, zwn]
          try simp only [hn]
          go_wp2_with (fail)
          exact ⟨rfl, _, rfl, Below.refl _ _, rfl⟩
        · intro xs W hW hn
          simp [flowNeeds, Region.binds] at hn
          simp only [flowAct, zwc, zwn]
          try simp only [hn]
          go_wp2_with (fail)
          exact ⟨rfl, _, rfl, Below.refl _ _, rfl⟩
        · intro xs W hW hn
          simp [flowNeeds, Region.binds] at hn
          simp only [flowAct, zwc, zwn]
          try simp only [hn]
          go_wp2_with (fail)
          exact ⟨rfl, _, rfl, Below.refl _ _, rfl⟩
        · intro xs W hW hn
          simp [flowNeeds, Region.binds] at hn
          simp only [flowAct, zwc, zwn]
          try simp only [hn]
          go_wp2_with (fail)
          exact ⟨rfl, _, rfl, Below.refl _ _, rfl⟩
        · intro xs W hW hn
          simp [flowNeeds, Region.binds] at hn
          simp only [flowAct, zwc, zwn]
          try simp only [hn]
          go_wp2_with (fail)
          exact ⟨rfl, _, rfl, Below.refl _ _, rfl⟩
        · intro xs W hW hn
          simp [flowNeeds, Region.binds] at hn
          simp only [flowAct, zwc, zwn]
          try simp only [hn]
          go_wp2_with (fail)
          exact ⟨rfl, _, rfl, Below.refl _ _, rfl⟩
        · intro xs W hW hn
          simp [flowNeeds, Region.binds] at hn
          simp only [flowAct, zwc, zwn]
          try simp only [hn]
          go_wp2_with (fail)
          exact ⟨rfl, _, rfl, Below.refl _ _, rfl⟩
        · intro xs W hW hn
          simp [flowNeeds, Region.binds] at hn
          simp only [flowAct, zwc, zwn]
          try simp only [hn]
          go_wp2_with (fail)
          exact ⟨rfl, _, rfl, Below.refl _ _, rfl⟩
        · intro xs W hW hn
          simp [flowNeeds, Region.binds] at hn
          simp only [flowAct, zwc, zwn]
          try simp only [hn]
          go_wp2_with (fail)
          exact ⟨rfl, _, rfl, Below.refl _ _, rfl⟩
        · intro xs W hW hn
          simp [flowNeeds, Region.binds] at hn
          simp only [flowAct, zwc, zwn]
          try simp only [hn]
          go_wp2_with (fail)
          exact ⟨rfl, _, rfl, Below.refl _ _, rfl⟩
        · intro xs W hW hn
          simp [flowNeeds, Region.binds] at hn
          simp only [flowAct, zwc, zwn]
          try simp only [hn]
          go_wp2_with (fail)
          exact ⟨rfl, _, rfl, Below.refl _ _, rfl⟩
        · intro xs W hW hn
          simp [flowNeeds, Region.binds] at hn
          simp only [flowAct, zwc, zwn]
          try simp only [hn]
          go_wp2_with (fail)
          exact ⟨rfl, _, rfl, Below.refl _ _, rfl⟩
        · intro xs W hW hn
          simp [flowNeeds, Region.binds] at hn
          simp only [flowAct, zwc, zwn]
          try simp only [hn]
          go_wp2_with (fail)
          exact ⟨rfl, _, rfl, Below.refl _ _, rfl⟩
        · intro xs W hW hn
          simp [flowNeeds, Region.binds] at hn
          simp only [flowAct, zwc, zwn]
          try simp only [hn]
          go_wp2_with (fail)
          exact ⟨rfl, _, rfl, Below.refl _ _, rfl⟩
      · intro xs W hW hall
        simp only [flowAll, and_true, Nat.zero_add, Nat.reduceAdd] at hall
        obtain ⟨-,-,-,-,-,-,-,-,-,-,-,-,-,-,-,-,-,-,-,-,-,-, e22⟩ := hall
        simp only [flowAct, zwc, zwn]
        simp only [e22]
        go_wp2
        go_ret
        exact ⟨by rw [HRR.out]; rfl, HB1.out.trans (hW.mono HB1.out.size)⟩
    | true =>
      by_cases hss : s = 1
      · have hsb : (s == 1) = true := by simpa using hss
        subst hss
        rw [hsb] at HRR0
        clear hsb
        go_enter Tryd.func20, Tryd.ntmps20
        go_upto_region 4 with (go_at_call 32; (with_reducible refine (HSG.out _).mono ?_); rintro e9 w2 ⟨rfl, hb2⟩; obtain ⟨c0, c1, c2, c3, c4, c5⟩ := HC0.out w2 hb2)
        have HB1 := Lib.hid (HB0.out.trans (hb2.mono HB0.out.size))
        have HCW := Lib.hid (fun W (h : Below w2.heap.size w2 W) => HC0.out W (hb2.trans (h.mono hb2.size)))
        clear hb2 HB0 HC0 HSG c0 c1 c2 c3 c4 c5
        obtain ⟨B, hB⟩ : ∃ z, w.heap.size = z := ⟨_, rfl⟩
        simp only [hB] at HCW ⊢
        have HBe := Lib.hid hB
        clear hB
        cases VG with
        | false =>
          have HRR := Lib.hid (show r = false by rw [HRR0.out]; rfl)
          clear HRR0
          refine wp_region_flow [none,none, some 22, none,none,none,none,none,none,none,none,none,none,none,none,none,none,none,none,none,none,none,none, some 0, some 1, some 2, some 3, some 4, some 5, some 6, some 7, some 8, some 9, some 10, some 11, some 12, some 13, some 14, some 15, some 16, some 17, some 18, some 19, some 20, some 21] (fun i => [undef,undef,undef,undef,undef,undef,undef,undef,undef,undef,undef,undef,undef,undef,undef,undef,undef,undef,undef,undef,undef,undef, .bool false].getD i undef) [(fun v _ => v = .bool true), (fun v _ => v = .bool true), (fun v _ => v = .pointer (some ⟨B, 4, none⟩)), (fun v _ => v = .agg #[.int .i64 a, .int .i64 b]), (fun v _ => v = .bool false), (fun v _ => v = .bool false), (fun v _ => v = .bool false), (fun v _ => v = undef), (fun v _ => v = undef), (fun v _ => v = undef), (fun v _ => v = .bool false), (fun v _ => v = .bool false), (fun v _ => v = undef), (fun v _ => v = undef), (fun v _ => v = undef), (fun v _ => v = undef), (fun v _ => v = undef), (fun v _ => v = undef), (fun v _ => v = undef), (fun v _ => v = undef), (fun v _ => v = undef), (fun v _ => v = .bool false), (fun v _ => v = .bool false)] (by kernel_rfl) (by kernel_rfl) rfl rfl rfl ?_ ?_ ?_
          · intro g hg v X Y hX hY hv
            simp only [List.mem_cons, List.not_mem_nil, or_false] at hg
            rcases hg with rfl | rfl | rfl | rfl | rfl | rfl | rfl | rfl | rfl | rfl | rfl | rfl | rfl | rfl | rfl | rfl | rfl | rfl | rfl | rfl | rfl | rfl | rfl
            all_goals first
              | exact hv
              | exact hv.kept hY
          · simp only [flowOps, and_true]
            refine ⟨?_,?_,?_,?_,?_,?_,?_,?_,?_,?_,?_,?_,?_,?_,?_,?_,?_,?_,?_,?_,?_,?_,?_⟩
            · intro xs W hW hn
              simp only [flowAct, zwc, zwn]
              go_wp2_with (fail)
              exact ⟨rfl, _, rfl, Below.refl _ _, rfl⟩
            · intro xs W hW hn
              simp [flowNeeds, Region.binds] at hn
              simp only [flowAct, zwc, zwn]
              try simp only [hn]
              go_wp2_with (fail)
              exact ⟨rfl, _, rfl, Below.refl _ _, rfl⟩
            · intro xs W hW hn
              simp [flowNeeds, Region.binds] at hn
              simp only [flowAct, zwc, zwn]
              try simp only [hn]
              go_wp2_with (fail)
              exact ⟨rfl, _, rfl, Below.refl _ _, rfl⟩
            · intro xs W hW hn
              obtain ⟨c0, c1, c2, c3, c4, c5⟩ := HCW.out W hW
              simp [flowNeeds, Region.binds] at hn
              simp only [flowAct, zwc, zwn]
              try simp only [hn]
              go_wp2_with (fail)
              exact ⟨rfl, _, rfl, Below.refl _ _, rfl⟩
            · intro xs W hW hn
              simp [flowNeeds, Region.binds] at hn
              simp only [flowAct, zwc, zwn]
              try simp only [hn]
              go_wp2_with (go_at_call 33; (with_reducible refine (HVG.out _).mono ?_); rintro e9 w9 ⟨rfl, hb9⟩)
              exact ⟨rfl, _, rfl, hb9, rfl⟩
            · intro xs W hW hn
              simp [flowNeeds, Region.binds] at hn
              simp only [flowAct, zwc, zwn]
              try simp only [hn]
              go_wp2_with (fail)
              exact ⟨rfl, _, rfl, Below.refl _ _, rfl⟩
            · intro xs W hW hn
              simp [flowNeeds, Region.binds] at hn
              simp only [flowAct, zwc, zwn]
              try simp only [hn]
              go_wp2_with (fail)
              exact ⟨rfl, _, rfl, Below.refl _ _, rfl⟩
            · intro xs W hW hn
              simp [flowNeeds, Region.binds] at hn
              simp only [flowAct, zwc, zwn]
              try simp only [hn]
              go_wp2_with (fail)
              exact ⟨rfl, _, rfl, Below.refl _ _, rfl⟩
            · intro xs W hW hn
              simp [flowNeeds, Region.binds] at hn
              simp only [flowAct, zwc, zwn]
              try simp only [hn]
              go_wp2_with (fail)
              exact ⟨rfl, _, rfl, Below.refl _ _, rfl⟩
            · intro xs W hW hn
              simp [flowNeeds, Region.binds] at hn
              simp only [flowAct, zwc, zwn]
              try simp only [hn]
              go_wp2_with (fail)
              exact ⟨rfl, _, rfl, Below.refl _ _, rfl⟩
            · intro xs W hW hn
              simp [flowNeeds, Region.binds] at hn
              simp only [flowAct, zwc, zwn]
              try simp only [hn]
              go_wp2_with (fail)
              exact ⟨rfl, _, rfl, Below.refl _ _, rfl⟩
            · intro xs W hW hn
              simp [flowNeeds, Region.binds] at hn
              simp only [flowAct, zwc, zwn]
              try simp only [hn]
              go_wp2_with (fail)
              exact ⟨rfl, _, rfl, Below.refl _ _, rfl⟩
            · intro xs W hW hn
              simp [flowNeeds, Region.binds] at hn
              simp only [flowAct, zwc, zwn]
              try simp only [hn]
              go_wp2_with (fail)
              exact ⟨rfl, _, rfl, Below.refl _ _, rfl⟩
            · intro xs W hW hn
              simp [flowNeeds, Region.binds] at hn
              simp only [flowAct, zwc, zwn]
              try simp only [hn]
              go_wp2_with (fail)
              exact ⟨rfl, _, rfl, Below.refl _ _, rfl⟩
            · intro xs W hW hn
              simp [flowNeeds, Region.binds] at hn
              simp only [flowAct, zwc, zwn]
              try simp only [hn]
              go_wp2_with (fail)
              exact ⟨rfl, _, rfl, Below.refl _ _, rfl⟩
            · intro xs W hW hn
              simp [flowNeeds, Region.binds] at hn
              simp only [flowAct, zwc, zwn]
              try simp only [hn]
              go_wp2_with (fail)
              exact ⟨rfl, _, rfl, Below.refl _ _, rfl⟩
            · intro xs W hW hn
              simp [flowNeeds, Region.binds] at hn
              simp only [flowAct, zwc, zwn]
              try simp only [hn]
              go_wp2_with (fail)
              exact ⟨rfl, _, rfl, Below.refl _ _, rfl⟩
            · intro xs W hW hn
              simp [flowNeeds, Region.binds] at hn
              simp only [flowAct, zwc, zwn]
              try simp only [hn]
              go_wp2_with (fail)
              exact ⟨rfl, _, rfl, Below.refl _ _, rfl⟩
            · intro xs W hW hn
              simp [flowNeeds, Region.binds] at hn
              simp only [flowAct, zwc, zwn]
              try simp only [hn]
              go_wp2_with (fail)
              exact ⟨rfl, _, rfl, Below.refl _ _, rfl⟩
            · intro xs W hW hn
              simp [flowNeeds, Region.binds] at hn
              simp only [flowAct, zwc, zwn]
              try simp only [hn]
              go_wp2_with (fail)
              exact ⟨rfl, _, rfl, Below.refl _ _, rfl⟩
            · intro xs W hW hn
              simp [flowNeeds, Region.binds] at hn
              simp only [flowAct, zwc, zwn]
              try simp only [hn]
              go_wp2_with (fail)
              exact ⟨rfl, _, rfl, Below.refl _ _, rfl⟩
            · intro xs W hW hn
              simp [flowNeeds, Region.binds] at hn
              simp only [flowAct, zwc, zwn]
              try simp only [hn]
              go_wp2_with (fail)
              exact ⟨rfl, _, rfl, Below.refl _ _, rfl⟩
            · intro xs W hW hn
              simp [flowNeeds, Region.binds] at hn
              simp only [flowAct, zwc, zwn]
              try simp only [hn]
              go_wp2_with (fail)
              exact ⟨rfl, _, rfl, Below.refl _ _, rfl⟩
          · intro xs W hW hall
            simp only [flowAll, and_true, Nat.zero_add, Nat.reduceAdd] at hall
            obtain ⟨-,-,-,-,-,-,-,-,-,-,-,-,-,-,-,-,-,-,-,-,-,-, e22⟩ := hall
            simp only [flowAct, zwc, zwn]
            simp only [e22]
            go_wp2
            go_ret
            exact ⟨by rw [HRR.out]; rfl, HB1.out.trans (hW.mono HB1.out.size)⟩
        | true =>
          by_cases hq : 1 ≤ seq
          · have HRR := Lib.hid (show r = (seq == a) by rw [HRR0.out]; simp [hq])
            clear HRR0
            refine wp_region_flow [none,none, some 22, none,none,none,none,none,none,none,none,none,none,none,none,none,none,none,none,none,none,none,none, some 0, some 1, some 2, some 3, some 4, some 5, some 6, some 7, some 8, some 9, some 10, some 11, some 12, some 13, some 14, some 15, some 16, some 17, some 18, some 19, some 20, some 21] (fun i => [undef,undef,undef,undef,undef,undef,undef,undef,undef,undef,undef,undef,undef,undef,undef,undef,undef,undef,undef,undef,undef,undef, .bool false].getD i undef) [(fun v _ => v = .bool true), (fun v _ => v = .bool true), (fun v _ => v = .pointer (some ⟨B, 4, none⟩)), (fun v _ => v = .agg #[.int .i64 a, .int .i64 b]), (fun v _ => v = .bool true), (fun v _ => v = .bool true), (fun v _ => v = .bool true), (fun v _ => v = .pointer (some ⟨B, 1, none⟩)), (fun v _ => v = .int .i64 seq), (fun v _ => v = .bool true), (fun v _ => v = .bool true), (fun v _ => v = .bool true), (fun v _ => v = .pointer (some ⟨B, 1, none⟩)), (fun v _ => v = .int .i64 seq), (fun v _ => v = .pointer (some ⟨B, 0, none⟩)), (fun v _ => v = .int .i64 1), (fun v _ => v = .int .i64 0), (fun v _ => v = .pointer (some ⟨B, 4, none⟩)), (fun v _ => v = .pointer (some ⟨B, 4, none⟩)), (fun v _ => v = .int .i64 a), (fun v _ => v = .bool (seq == a)), (fun v _ => v = .bool (seq == a)), (fun v _ => v = .bool (seq == a))] (by kernel_rfl) (by kernel_rfl) rfl rfl rfl ?_ ?_ ?_
            · intro g hg v X Y hX hY hv
              simp only [List.mem_cons, List.not_mem_nil, or_false] at hg
              rcases hg with rfl | rfl | rfl | rfl | rfl | rfl | rfl | rfl | rfl | rfl | rfl | rfl | rfl | rfl | rfl | rfl | rfl | rfl | rfl | rfl | rfl | rfl | rfl
              all_goals first
                | exact hv
                | exact hv.kept hY
            · simp only [flowOps, and_true]
              refine ⟨?_,?_,?_,?_,?_,?_,?_,?_,?_,?_,?_,?_,?_,?_,?_,?_,?_,?_,?_,?_,?_,?_,?_⟩
              · intro xs W hW hn
                simp only [flowAct, zwc, zwn]
                go_wp2_with (fail)
                exact ⟨rfl, _, rfl, Below.refl _ _, rfl⟩
              · intro xs W hW hn
                simp [flowNeeds, Region.binds] at hn
                simp only [flowAct, zwc, zwn]
                try simp only [hn]
                go_wp2_with (fail)
                exact ⟨rfl, _, rfl, Below.refl _ _, rfl⟩
              · intro xs W hW hn
                simp [flowNeeds, Region.binds] at hn
                simp only [flowAct, zwc, zwn]
                try simp only [hn]
                go_wp2_with (fail)
                exact ⟨rfl, _, rfl, Below.refl _ _, rfl⟩
              · intro xs W hW hn
                obtain ⟨c0, c1, c2, c3, c4, c5⟩ := HCW.out W hW
                simp [flowNeeds, Region.binds] at hn
                simp only [flowAct, zwc, zwn]
                try simp only [hn]
                go_wp2_with (fail)
                exact ⟨rfl, _, rfl, Below.refl _ _, rfl⟩
              · intro xs W hW hn
                simp [flowNeeds, Region.binds] at hn
                simp only [flowAct, zwc, zwn]
                try simp only [hn]
                go_wp2_with (go_at_call 33; (with_reducible refine (HVG.out _).mono ?_); rintro e9 w9 ⟨rfl, hb9⟩)
                exact ⟨rfl, _, rfl, hb9, rfl⟩
              · intro xs W hW hn
                simp [flowNeeds, Region.binds] at hn
                simp only [flowAct, zwc, zwn]
                try simp only [hn]
                go_wp2_with (fail)
                exact ⟨rfl, _, rfl, Below.refl _ _, rfl⟩
              · intro xs W hW hn
                simp [flowNeeds, Region.binds] at hn
                simp only [flowAct, zwc, zwn]
                try simp only [hn]
                go_wp2_with (fail)
                exact ⟨rfl, _, rfl, Below.refl _ _, rfl⟩
              · intro xs W hW hn
                simp [flowNeeds, Region.binds] at hn
                simp only [flowAct, zwc, zwn]
                try simp only [hn]
                go_wp2_with (fail)
                exact ⟨rfl, _, rfl, Below.refl _ _, rfl⟩
              · intro xs W hW hn
                obtain ⟨c0, c1, c2, c3, c4, c5⟩ := HCW.out W hW
                simp [flowNeeds, Region.binds] at hn
                simp only [flowAct, zwc, zwn]
                try simp only [hn]
                go_wp2_with (fail)
                exact ⟨rfl, _, rfl, Below.refl _ _, rfl⟩
              · intro xs W hW hn
                simp [flowNeeds, Region.binds] at hn
                simp only [flowAct, zwc, zwn]
                try simp only [hn]
                go_wp2_with (fail)
                exact ⟨rfl, _, rfl, Below.refl _ _, by first | rfl | go_num | (simp; done)⟩
              · intro xs W hW hn
                simp [flowNeeds, Region.binds] at hn
                simp only [flowAct, zwc, zwn]
                try simp only [hn]
                go_wp2_with (fail)
                exact ⟨rfl, _, rfl, Below.refl _ _, rfl⟩
              · intro xs W hW hn
                simp [flowNeeds, Region.binds] at hn
                simp only [flowAct, zwc, zwn]
                try simp only [hn]
                go_wp2_with (fail)
                exact ⟨rfl, _, rfl, Below.refl _ _, rfl⟩
              · intro xs W hW hn
                simp [flowNeeds, Region.binds] at hn
                simp only [flowAct, zwc, zwn]
                try simp only [hn]
                go_wp2_with (fail)
                exact ⟨rfl, _, rfl, Below.refl _ _, rfl⟩
              · intro xs W hW hn
                obtain ⟨c0, c1, c2, c3, c4, c5⟩ := HCW.out W hW
                simp [flowNeeds, Region.binds] at hn
                simp only [flowAct, zwc, zwn]
                try simp only [hn]
                go_wp2_with (fail)
                exact ⟨rfl, _, rfl, Below.refl _ _, rfl⟩
              · intro xs W hW hn
                simp [flowNeeds, Region.binds] at hn
                simp only [flowAct, zwc, zwn]
                try simp only [hn]
                go_wp2_with (fail)
                exact ⟨rfl, _, rfl, Below.refl _ _, rfl⟩
              · intro xs W hW hn
                obtain ⟨c0, c1, c2, c3, c4, c5⟩ := HCW.out W hW
                simp [flowNeeds, Region.binds] at hn
                simp only [flowAct, zwc, zwn]
                try simp only [hn]
                go_wp2_with (fail)
                exact ⟨rfl, _, rfl, Below.refl _ _, rfl⟩
              · intro xs W hW hn
                simp [flowNeeds, Region.binds] at hn
                simp only [flowAct, zwc, zwn]
                try simp only [hn]
                go_wp2_with (fail)
                exact ⟨rfl, _, rfl, Below.refl _ _, by first | rfl | go_num | (simp; done)⟩
              · intro xs W hW hn
                simp [flowNeeds, Region.binds] at hn
                simp only [flowAct, zwc, zwn]
                try simp only [hn]
                go_wp2_with (fail)
                exact ⟨rfl, _, rfl, Below.refl _ _, rfl⟩
              · intro xs W hW hn
                simp [flowNeeds, Region.binds] at hn
                simp only [flowAct, zwc, zwn]
                try simp only [hn]
                go_wp2_with (fail)
                exact ⟨rfl, _, rfl, Below.refl _ _, by first | rfl | go_num | (simp; done)⟩
              · intro xs W hW hn
                obtain ⟨c0, c1, c2, c3, c4, c5⟩ := HCW.out W hW
                simp [flowNeeds, Region.binds] at hn
                simp only [flowAct, zwc, zwn]
                try simp only [hn]
                go_wp2_with (fail)
                exact ⟨rfl, _, rfl, Below.refl _ _, rfl⟩
              · intro xs W hW hn
                simp [flowNeeds, Region.binds] at hn
                simp only [flowAct, zwc, zwn]
                try simp only [hn]
                go_wp2_with (fail)
                exact ⟨rfl, _, rfl, Below.refl _ _, by first | rfl | go_num | (simp; done)⟩
              · intro xs W hW hn
                simp [flowNeeds, Region.binds] at hn
                simp only [flowAct, zwc, zwn]
                try simp only [hn]
                go_wp2_with (fail)
                exact ⟨rfl, _, rfl, Below.refl _ _, rfl⟩
              · intro xs W hW hn
                simp [flowNeeds, Region.binds] at hn
                simp only [flowAct, zwc, zwn]
                try simp only [hn]
                go_wp2_with (fail)
                exact ⟨rfl, _, rfl, Below.refl _ _, rfl⟩
            · intro xs W hW hall
              simp only [flowAll, and_true, Nat.zero_add, Nat.reduceAdd] at hall
              obtain ⟨-,-,-,-,-,-,-,-,-,-,-,-,-,-,-,-,-,-,-,-,-,-, e22⟩ := hall
              simp only [flowAct, zwc, zwn]
              simp only [e22]
              go_wp2
              go_ret
              exact ⟨by rw [HRR.out]; rfl, HB1.out.trans (hW.mono HB1.out.size)⟩
          · have HRR := Lib.hid (show r = false by rw [HRR0.out]; simp [hq])
            clear HRR0
            refine wp_region_flow [none,none, some 22, none,none,none,none,none,none,none,none,none,none,none,none,none,none,none,none,none,none,none,none, some 0, some 1, some 2, some 3, some 4, some 5, some 6, some 7, some 8, some 9, some 10, some 11, some 12, some 13, some 14, some 15, some 16, some 17, some 18, some 19, some 20, some 21] (fun i => [undef,undef,undef,undef,undef,undef,undef,undef,undef,undef,undef,undef,undef,undef,undef,undef,undef,undef,undef,undef,undef,undef, .bool false].getD i undef) [(fun v _ => v = .bool true), (fun v _ => v = .bool true), (fun v _ => v = .pointer (some ⟨B, 4, none⟩)), (fun v _ => v = .agg #[.int .i64 a, .int .i64 b]), (fun v _ => v = .bool true), (fun v _ => v = .bool true), (fun v _ => v = .bool true), (fun v _ => v = .pointer (some ⟨B, 1, none⟩)), (fun v _ => v = .int .i64 seq), (fun v _ => v = .bool false), (fun v _ => v = .bool false), (fun v _ => v = .bool false), (fun v _ => v = undef), (fun v _ => v = undef), (fun v _ => v = undef), (fun v _ => v = undef), (fun v _ => v = undef), (fun v _ => v = undef), (fun v _ => v = undef), (fun v _ => v = undef), (fun v _ => v = undef), (fun v _ => v = .bool false), (fun v _ => v = .bool false)] (by kernel_rfl) (by kernel_rfl) rfl rfl rfl ?_ ?_ ?_
            · intro g hg v X Y hX hY hv
              simp only [List.mem_cons, List.not_mem_nil, or_false] at hg
              rcases hg with rfl | rfl | rfl | rfl | rfl | rfl | rfl | rfl | rfl | rfl | rfl | rfl | rfl | rfl | rfl | rfl | rfl | rfl | rfl | rfl | rfl | rfl | rfl
              all_goals first
                | exact hv
                | exact hv.kept hY
            · simp only [flowOps, and_true]
              refine ⟨?_,?_,?_,?_,?_,?_,?_,?_,?_,?_,?_,?_,?_,?_,?_,?_,?_,?_,?_,?_,?_,?_,?_⟩
              · intro xs W hW hn
                simp only [flowAct, zwc, zwn]
                go_wp2_with (fail)
                exact ⟨rfl, _, rfl, Below.refl _ _, rfl⟩
              · intro xs W hW hn
                simp [flowNeeds, Region.binds] at hn
                simp only [flowAct, zwc, zwn]
                try simp only [hn]
                go_wp2_with (fail)
                exact ⟨rfl, _, rfl, Below.refl _ _, rfl⟩
              · intro xs W hW hn
                simp [flowNeeds, Region.binds] at hn
                simp only [flowAct, zwc, zwn]
                try simp only [hn]
                go_wp2_with (fail)
                exact ⟨rfl, _, rfl, Below.refl _ _, rfl⟩
              · intro xs W hW hn
                obtain ⟨c0, c1, c2, c3, c4, c5⟩ := HCW.out W hW
                simp [flowNeeds, Region.binds] at hn
                simp only [flowAct, zwc, zwn]
                try simp only [hn]
                go_wp2_with (fail)
                exact ⟨rfl, _, rfl, Below.refl _ _, rfl⟩
              · intro xs W hW hn
                simp [flowNeeds, Region.binds] at hn
                simp only [flowAct, zwc, zwn]
                try simp only [hn]
                go_wp2_with (go_at_call 33; (with_reducible refine (HVG.out _).mono ?_); rintro e9 w9 ⟨rfl, hb9⟩)
                exact ⟨rfl, _, rfl, hb9, rfl⟩
              · intro xs W hW hn
                simp [flowNeeds, Region.binds] at hn
                simp only [flowAct, zwc, zwn]
                try simp only [hn]
                go_wp2_with (fail)
                exact ⟨rfl, _, rfl, Below.refl _ _, rfl⟩
              · intro xs W hW hn
                simp [flowNeeds, Region.binds] at hn
                simp only [flowAct, zwc, zwn]
                try simp only [hn]
                go_wp2_with (fail)
                exact ⟨rfl, _, rfl, Below.refl _ _, rfl⟩
              · intro xs W hW hn
                simp [flowNeeds, Region.binds] at hn
                simp only [flowAct, zwc, zwn]
                try simp only [hn]
                go_wp2_with (fail)
                exact ⟨rfl, _, rfl, Below.refl _ _, rfl⟩
              · intro xs W hW hn
                obtain ⟨c0, c1, c2, c3, c4, c5⟩ := HCW.out W hW
                simp [flowNeeds, Region.binds] at hn
                simp only [flowAct, zwc, zwn]
                try simp only [hn]
                go_wp2_with (fail)
                exact ⟨rfl, _, rfl, Below.refl _ _, rfl⟩
              · intro xs W hW hn
                simp [flowNeeds, Region.binds] at hn
                simp only [flowAct, zwc, zwn]
                try simp only [hn]
                go_wp2_with (fail)
                exact ⟨rfl, _, rfl, Below.refl _ _, by first | rfl | go_num | (simp; done)⟩
              · intro xs W hW hn
                simp [flowNeeds, Region.binds] at hn
                simp only [flowAct, zwc, zwn]
                try simp only [hn]
                go_wp2_with (fail)
                exact ⟨rfl, _, rfl, Below.refl _ _, rfl⟩
              · intro xs W hW hn
                simp [flowNeeds, Region.binds] at hn
                simp only [flowAct, zwc, zwn]
                try simp only [hn]
                go_wp2_with (fail)
                exact ⟨rfl, _, rfl, Below.refl _ _, rfl⟩
              · intro xs W hW hn
                simp [flowNeeds, Region.binds] at hn
                simp only [flowAct, zwc, zwn]
                try simp only [hn]
                go_wp2_with (fail)
                exact ⟨rfl, _, rfl, Below.refl _ _, rfl⟩
              · intro xs W hW hn
                simp [flowNeeds, Region.binds] at hn
                simp only [flowAct, zwc, zwn]
                try simp only [hn]
                go_wp2_with (fail)
                exact ⟨rfl, _, rfl, Below.refl _ _, rfl⟩
              · intro xs W hW hn
                simp [flowNeeds, Region.binds] at hn
                simp only [flowAct, zwc, zwn]
                try simp only [hn]
                go_wp2_with (fail)
                exact ⟨rfl, _, rfl, Below.refl _ _, rfl⟩
              · intro xs W hW hn
                simp [flowNeeds, Region.binds] at hn
                simp only [flowAct, zwc, zwn]
                try simp only [hn]
                go_wp2_with (fail)
                exact ⟨rfl, _, rfl, Below.refl _ _, rfl⟩
              · intro xs W hW hn
                simp [flowNeeds, Region.binds] at hn
                simp only [flowAct, zwc, zwn]
                try simp only [hn]
                go_wp2_with (fail)
                exact ⟨rfl, _, rfl, Below.refl _ _, rfl⟩
              · intro xs W hW hn
                simp [flowNeeds, Region.binds] at hn
                simp only [flowAct, zwc, zwn]
                try simp only [hn]
                go_wp2_with (fail)
                exact ⟨rfl, _, rfl, Below.refl _ _, rfl⟩
              · intro xs W hW hn
                simp [flowNeeds, Region.binds] at hn
                simp only [flowAct, zwc, zwn]
                try simp only [hn]
                go_wp2_with (fail)
                exact ⟨rfl, _, rfl, Below.refl _ _, rfl⟩
              · intro xs W hW hn
                simp [flowNeeds, Region.binds] at hn
                simp only [flowAct, zwc, zwn]
                try simp only [hn]
                go_wp2_with (fail)
                exact ⟨rfl, _, rfl, Below.refl _ _, rfl⟩
              · intro xs W hW hn
                simp [flowNeeds, Region.binds] at hn
                simp only [flowAct, zwc, zwn]
                try simp only [hn]
                go_wp2_with (fail)
                exact ⟨rfl, _, rfl, Below.refl _ _, rfl⟩
              · intro xs W hW hn
                simp [flowNeeds, Region.binds] at hn
                simp only [flowAct, zwc, zwn]
                try simp only [hn]
                go_wp2_with (fail)
                exact ⟨rfl, _, rfl, Below.refl _ _, rfl⟩
              · intro xs W hW hn
                simp [flowNeeds, Region.binds] at hn
                simp only [flowAct, zwc, zwn]
                try simp only [hn]
                go_wp2_with (fail)
                exact ⟨rfl, _, rfl, Below.refl _ _, rfl⟩
            · intro xs W hW hall
              simp only [flowAll, and_true, Nat.zero_add, Nat.reduceAdd] at hall
              obtain ⟨-,-,-,-,-,-,-,-,-,-,-,-,-,-,-,-,-,-,-,-,-,-, e22⟩ := hall
              simp only [flowAct, zwc, zwn]
              simp only [e22]
              go_wp2
              go_ret
              exact ⟨by rw [HRR.out]; rfl, HB1.out.trans (hW.mono HB1.out.size)⟩
      · have hsb : (s == 1) = false := by simpa using hss
        have HRR := Lib.hid (show r = false by rw [HRR0.out, hsb]; rfl)
        clear HRR0
        go_enter Tryd.func20, Tryd.ntmps20
        go_upto_region 4 with (go_at_call 32; (with_reducible refine (HSG.out _).mono ?_); rintro e9 w2 ⟨rfl, hb2⟩; obtain ⟨c0, c1, c2, c3, c4, c5⟩ := HC0.out w2 hb2)
        have HB1 := Lib.hid (HB0.out.trans (hb2.mono HB0.out.size))
        have HCW := Lib.hid (fun W (h : Below w2.heap.size w2 W) => HC0.out W (hb2.trans (h.mono hb2.size)))
        clear hb2 HB0 HC0 HSG c0 c1 c2 c3 c4 c5
        obtain ⟨B, hB⟩ : ∃ z, w.heap.size = z := ⟨_, rfl⟩
        simp only [hB] at HCW ⊢
        have HBe := Lib.hid hB
        clear hB
        refine wp_region_flow [none,none, some 22, none,none,none,none,none,none,none,none,none,none,none,none,none,none,none,none,none,none,none,none, some 0, some 1, some 2, some 3, some 4, some 5, some 6, some 7, some 8, some 9, some 10, some 11, some 12, some 13, some 14, some 15, some 16, some 17, some 18, some 19, some 20, some 21] (fun i => [undef,undef,undef,undef,undef,undef,undef,undef,undef,undef,undef,undef,undef,undef,undef,undef,undef,undef,undef,undef,undef,undef, .bool false].getD i undef) [(fun v _ => v = .bool false), (fun v _ => v = .bool false), (fun v _ => v = undef), (fun v _ => v = undef), (fun v _ => v = undef), (fun v _ => v = .bool false), (fun v _ => v = .bool false), (fun v _ => v = undef), (fun v _ => v = undef), (fun v _ => v = undef), (fun v _ => v = .bool false), (fun v _ => v = .bool false), (fun v _ => v = undef), (fun v _ => v = undef), (fun v _ => v = undef), (fun v _ => v = undef), (fun v _ => v = undef), (fun v _ => v = undef), (fun v _ => v = undef), (fun v _ => v = undef), (fun v _ => v = undef), (fun v _ => v = .bool false), (fun v _ => v = .bool false)] (by kernel_rfl) (by kernel_rfl) rfl rfl rfl ?_ ?_ ?_
        · intro g hg v X Y hX hY hv
          simp only [List.mem_cons, List.not_mem_nil, or_false] at hg
          rcases hg with rfl | rfl | rfl | rfl | rfl | rfl | rfl | rfl | rfl | rfl | rfl | rfl | rfl | rfl | rfl | rfl | rfl | rfl | rfl | rfl | rfl | rfl | rfl
          all_goals first
            | exact hv
            | exact hv.kept hY
        · simp only [flowOps, and_true]
          refine ⟨?_,?_,?_,?_,?_,?_,?_,?_,?_,?_,?_,?_,?_,?_,?_,?_,?_,?_,?_,?_,?_,?_,?_⟩
          · intro xs W hW hn
            simp only [flowAct, zwc, zwn]
            go_wp2_with (fail)
            exact ⟨rfl, _, rfl, Below.refl _ _, rfl⟩
          · intro xs W hW hn
            simp [flowNeeds, Region.binds] at hn
            simp only [flowAct, zwc, zwn]
            try simp only [hn]
            go_wp2_with (fail)
            exact ⟨rfl, _, rfl, Below.refl _ _, rfl⟩
          · intro xs W hW hn
            simp [flowNeeds, Region.binds] at hn
            simp only [flowAct, zwc, zwn]
            try simp only [hn]
            go_wp2_with (fail)
            exact ⟨rfl, _, rfl, Below.refl _ _, rfl⟩
          · intro xs W hW hn
            simp [flowNeeds, Region.binds] at hn
            simp only [flowAct, zwc, zwn]
            try simp only [hn]
            go_wp2_with (fail)
            exact ⟨rfl, _, rfl, Below.refl _ _, rfl⟩
          · intro xs W hW hn
            simp [flowNeeds, Region.binds] at hn
            simp only [flowAct, zwc, zwn]
            try simp only [hn]
            go_wp2_with (fail)
            exact ⟨rfl, _, rfl, Below.refl _ _, rfl⟩
          · intro xs W hW hn
            simp [flowNeeds, Region.binds] at hn
            simp only [flowAct, zwc, zwn]
            try simp only [hn]
            go_wp2_with (fail)
            exact ⟨rfl, _, rfl, Below.refl _ _, rfl⟩
          · intro xs W hW hn
            simp [flowNeeds, Region.binds] at hn
            simp only [flowAct, zwc, zwn]
            try simp only [hn]
            go_wp2_with (fail)
            exact ⟨rfl, _, rfl, Below.refl _ _, rfl⟩
          · intro xs W hW hn
            simp [flowNeeds, Region.binds] at hn
            simp only [flowAct, zwc, zwn]
            try simp only [hn]
            go_wp2_with (fail)
            exact ⟨rfl, _, rfl, Below.refl _ _, rfl⟩
          · intro xs W hW hn
            simp [flowNeeds, Region.binds] at hn
            simp only [flowAct, zwc, zwn]
            try simp only [hn]
            go_wp2_with (fail)
            exact ⟨rfl, _, rfl, Below.refl _ _, rfl⟩
          · intro xs W hW hn
            simp [flowNeeds, Region.binds] at hn
            simp only [flowAct, zwc, zwn]
            try simp only [hn]
            go_wp2_with (fail)
            exact ⟨rfl, _, rfl, Below.refl _ _, rfl⟩
          · intro xs W hW hn
            simp [flowNeeds, Region.binds] at hn
            simp only [flowAct, zwc, zwn]
            try simp only [hn]
            go_wp2_with (fail)
            exact ⟨rfl, _, rfl, Below.refl _ _, rfl⟩
          · intro xs W hW hn
            simp [flowNeeds, Region.binds] at hn
            simp only [flowAct, zwc, zwn]
            try simp only [hn]
            go_wp2_with (fail)
            exact ⟨rfl, _, rfl, Below.refl _ _, rfl⟩
          · intro xs W hW hn
            simp [flowNeeds, Region.binds] at hn
            simp only [flowAct, zwc, zwn]
            try simp only [hn]
            go_wp2_with (fail)
            exact ⟨rfl, _, rfl, Below.refl _ _, rfl⟩
          · intro xs W hW hn
            simp [flowNeeds, Region.binds] at hn
            simp only [flowAct, zwc, zwn]
            try simp only [hn]
            go_wp2_with (fail)
            exact ⟨rfl, _, rfl, Below.refl _ _, rfl⟩
          · intro xs W hW hn
            simp [flowNeeds, Region.binds] at hn
            simp only [flowAct, zwc, zwn]
            try simp only [hn]
            go_wp2_with (fail)
            exact ⟨rfl, _, rfl, Below.refl _ _, rfl⟩
          · intro xs W hW hn
            simp [flowNeeds, Region.binds] at hn
            simp only [flowAct, zwc, zwn]
            try simp only [hn]
            go_wp2_with (fail)
            exact ⟨rfl, _, rfl, Below.refl _ _, rfl⟩
          · intro xs W hW hn
            simp [flowNeeds, Region.binds] at hn
            simp only [flowAct, zwc, zwn]
            try simp only [hn]
            go_wp2_with (fail)
            exact ⟨rfl, _, rfl, Below.refl _ _, rfl⟩
          · intro xs W hW hn
            simp [flowNeeds, Region.binds] at hn
            simp only [flowAct, zwc, zwn]
            try simp only [hn]
            go_wp2_with (fail)
            exact ⟨rfl, _, rfl, Below.refl _ _, rfl⟩
          · intro xs W hW hn
            simp [flowNeeds, Region.binds] at hn
            simp only [flowAct, zwc, zwn]
            try simp only [hn]
            go_wp2_with (fail)
            exact ⟨rfl, _, rfl, Below.refl _ _, rfl⟩
          · intro xs W hW hn
            simp [flowNeeds, Region.binds] at hn
            simp only [flowAct, zwc, zwn]
            try simp only [hn]
            go_wp2_with (fail)
            exact ⟨rfl, _, rfl, Below.refl _ _, rfl⟩
          · intro xs W hW hn
            simp [flowNeeds, Region.binds] at hn
            simp only [flowAct, zwc, zwn]
            try simp only [hn]
            go_wp2_with (fail)
            exact ⟨rfl, _, rfl, Below.refl _ _, rfl⟩
          · intro xs W hW hn
            simp [flowNeeds, Region.binds] at hn
            simp only [flowAct, zwc, zwn]
            try simp only [hn]
            go_wp2_with (fail)
            exact ⟨rfl, _, rfl, Below.refl _ _, rfl⟩
          · intro xs W hW hn
            simp [flowNeeds, Region.binds] at hn
            simp only [flowAct, zwc, zwn]
            try simp only [hn]
            go_wp2_with (fail)
            exact ⟨rfl, _, rfl, Below.refl _ _, rfl⟩
        · intro xs W hW hall
          simp only [flowAll, and_true, Nat.zero_add, Nat.reduceAdd] at hall
          obtain ⟨-,-,-,-,-,-,-,-,-,-,-,-,-,-,-,-,-,-,-,-,-,-, e22⟩ := hall
          simp only [flowAct, zwc, zwn]
          simp only [e22]
          go_wp2
          go_ret
          exact ⟨by rw [HRR.out]; rfl, HB1.out.trans (hW.mono HB1.out.size)⟩
  · by_cases h2 : site = 2
    · subst h2
      have HRR0 := Lib.hid (show goodHeadS 2 seq n s a b = ((sgood n s && (s == 2)) && (vgood a b && (decide (1 ≤ seq) && (seq == b)))) from by simp [goodHeadS])
      obtain ⟨r, hr⟩ : ∃ r, goodHeadS 2 seq n s a b = r := ⟨_, rfl⟩
      rw [hr] at HRR0 ⊢
      have hsg := fun W => sgood_c n s W
      have hvg := fun W => vgood_c a b W
      obtain ⟨SG, hSG⟩ : ∃ z, sgood n s = z := ⟨_, rfl⟩
      obtain ⟨VG, hVG⟩ : ∃ z, vgood a b = z := ⟨_, rfl⟩
      rw [hSG, hVG] at HRR0
      simp only [hSG] at hsg
      simp only [hVG] at hvg
      have HSG := Lib.hid hsg
      have HVG := Lib.hid hvg
      clear hr hSG hVG hsg hvg
      cases SG with
      | false =>
        have HRR := Lib.hid (show r = false by rw [HRR0.out]; rfl)
        clear HRR0
        go_enter Tryd.func20, Tryd.ntmps20
        go_upto_region 4 with (go_at_call 32; (with_reducible refine (HSG.out _).mono ?_); rintro e9 w2 ⟨rfl, hb2⟩)
        have HB1 := Lib.hid (HB0.out.trans (hb2.mono HB0.out.size))
        have HCW := Lib.hid (fun W (h : Below w2.heap.size w2 W) => HC0.out W (hb2.trans (h.mono hb2.size)))
        clear hb2 HB0 HC0 HSG c0 c1 c2 c3 c4 c5
        obtain ⟨B, hB⟩ : ∃ z, w.heap.size = z := ⟨_, rfl⟩
        simp only [hB] at HCW ⊢
        have HBe := Lib.hid hB
        clear hB
        refine wp_region_flow [none,none, some 22, none,none,none,none,none,none,none,none,none,none,none,none,none,none,none,none,none,none,none,none, some 0, some 1, some 2, some 3, some 4, some 5, some 6, some 7, some 8, some 9, some 10, some 11, some 12, some 13, some 14, some 15, some 16, some 17, some 18, some 19, some 20, some 21] (fun i => [undef,undef,undef,undef,undef,undef,undef,undef,undef,undef,undef,undef,undef,undef,undef,undef,undef,undef,undef,undef,undef,undef, .bool false].getD i undef) [(fun v _ => v = .bool false), (fun v _ => v = .bool false), (fun v _ => v = undef), (fun v _ => v = undef), (fun v _ => v = undef), (fun v _ => v = .bool false), (fun v _ => v = .bool false), (fun v _ => v = undef), (fun v _ => v = undef), (fun v _ => v = undef), (fun v _ => v = .bool false), (fun v _ => v = .bool false), (fun v _ => v = undef), (fun v _ => v = undef), (fun v _ => v = undef), (fun v _ => v = undef), (fun v _ => v = undef), (fun v _ => v = undef), (fun v _ => v = undef), (fun v _ => v = undef), (fun v _ => v = undef), (fun v _ => v = .bool false), (fun v _ => v = .bool false)] (by kernel_rfl) (by kernel_rfl) rfl rfl rfl ?_ ?_ ?_
        · intro g hg v X Y hX hY hv
          simp only [List.mem_cons, List.not_mem_nil, or_false] at hg
          rcases hg with rfl | rfl | rfl | rfl | rfl | rfl | rfl | rfl | rfl | rfl | rfl | rfl | rfl | rfl | rfl | rfl | rfl | rfl | rfl | rfl | rfl | rfl | rfl
          all_goals first
            | exact hv
            | exact hv.kept hY
        · simp only [flowOps, and_true]
          refine ⟨?_,?_,?_,?_,?_,?_,?_,?_,?_,?_,?_,?_,?_,?_,?_,?_,?_,?_,?_,?_,?_,?_,?_⟩
          · intro xs W hW hn
            simp only [flowAct, zwc, zwn]
            go_wp2_with (fail)
            exact ⟨rfl, _, rfl, Below.refl _ _, rfl⟩
          · intro xs W hW hn
            simp [flowNeeds, Region.binds] at hn
            simp only [flowAct, zwc, zwn]
            try simp only [hn]
            go_wp2_with (fail)
            exact ⟨rfl, _, rfl, Below.refl _ _, rfl⟩
          · intro xs W hW hn
            simp [flowNeeds, Region.binds] at hn
            simp only [flowAct, zwc, zwn]
            try simp only [hn]
            go_wp2_with (fail)
            exact ⟨rfl, _, rfl, Below.refl _ _, rfl⟩
          · intro xs W hW hn
            simp [flowNeeds, Region.binds] at hn
            simp only [flowAct, zwc, zwn]
            try simp only [hn]
            go_wp2_with (fail)
            exact ⟨rfl, _, rfl, Below.refl _ _, rfl⟩
          · intro xs W hW hn
            simp [flowNeeds, Region.binds] at hn
            simp only [flowAct, zwc, zwn]
            try simp only [hn]
            go_wp2_with (fail)
            exact ⟨rfl, _, rfl, Below.refl _ _, rfl⟩
          · intro xs W hW hn
            simp [flowNeeds, Region.binds] at hn
            simp only [flowAct, zwc, zwn]
            try simp only [hn]
            go_wp2_with (fail)
            exact ⟨rfl, _, rfl, Below.refl _ _, rfl⟩
          · intro xs W hW hn
            simp [flowNeeds, Region.binds] at hn
            simp only [flowAct, zwc, zwn]
            try simp only [hn]
            go_wp2_with (fail)
            exact ⟨rfl, _, rfl, Below.refl _ _, rfl⟩
          · intro xs W hW hn
            simp [flowNeeds, Region.binds] at hn
            simp only [flowAct, zwc, zwn]
            try simp only [hn]
            go_wp2_with (fail)
            exact ⟨rfl, _, rfl, Below.refl _ _, rfl⟩
          · intro xs W hW hn
            simp [flowNeeds, Region.binds] at hn
            simp only [flowAct, zwc, zwn]
            try simp only [hn]
            go_wp2_with (fail)
            exact ⟨rfl, _, rfl, Below.refl _ _, rfl⟩
          · intro xs W hW hn
            simp [flowNeeds, Region.binds] at hn
            simp only [flowAct, zwc, zwn]
            try simp only [hn]
            go_wp2_with (fail)
            exact ⟨rfl, _, rfl, Below.refl _ _, rfl⟩
          · intro xs W hW hn
            simp [flowNeeds, Region.binds] at hn
            simp only [flowAct, zwc, zwn]
            try simp only [hn]
            go_wp2_with (fail)
            exact ⟨rfl, _, rfl, Below.refl _ _, rfl⟩
          · intro xs W hW hn
            simp [flowNeeds, Region.binds] at hn
            simp only [flowAct, zwc, zwn]
            try simp only [hn]
            go_wp2_with (fail)
            exact ⟨rfl, _, rfl, Below.refl _ _, rfl⟩
          · intro xs W hW hn
            simp [flowNeeds, Region.binds] at hn
            simp only [flowAct, zwc, zwn]
            try simp only [hn]
            go_wp2_with (fail)
            exact ⟨rfl, _, rfl, Below.refl _ _, rfl⟩
          · intro xs W hW hn
            simp [flowNeeds, Region.binds] at hn
            simp only [flowAct, zwc, zwn]
            try simp only [hn]
            go_wp2_with (fail)
            exact ⟨rfl, _, rfl, Below.refl _ _, rfl⟩
          · intro xs W hW hn
            simp [flowNeeds, Region.binds] at hn
            simp only [flowAct, zwc, zwn]
            try simp only [hn]
            go_wp2_with (fail)
            exact ⟨rfl, _, rfl, Below.refl _ _, rfl⟩
          · intro xs W hW hn
            simp [flowNeeds, Region.binds] at hn
            simp only [flowAct, zwc, zwn]
            try simp only [hn]
            go_wp2_with (fail)
            exact ⟨rfl, _, rfl, Below.refl _ _, rfl⟩
          · intro xs W hW hn
            simp [flowNeeds, Region.binds] at hn
            simp only [flowAct, zwc, zwn]
            try simp only [hn]
            go_wp2_with (fail)
            exact ⟨rfl, _, rfl, Below.refl _ _, rfl⟩
          · intro xs W hW hn
            simp [flowNeeds, Region.binds] at hn
            simp only [flowAct, zwc, zwn]
            try simp only [hn]
            go_wp2_with (fail)
            exact ⟨rfl, _, rfl, Below.refl _ _, rfl⟩
          · intro xs W hW hn
            simp [flowNeeds, Region.binds] at hn
            simp only [flowAct, zwc, zwn]
            try simp only [hn]
            go_wp2_with (fail)
            exact ⟨rfl, _, rfl, Below.refl _ _, rfl⟩
          · intro xs W hW hn
            simp [flowNeeds, Region.binds] at hn
            simp only [flowAct, zwc, zwn]
            try simp only [hn]
            go_wp2_with (fail)
            exact ⟨rfl, _, rfl, Below.refl _ _, rfl⟩
          · intro xs W hW hn
            simp [flowNeeds, Region.binds] at hn
            simp only [flowAct, zwc, zwn]
            try simp only [hn]
            go_wp2_with (fail)
            exact ⟨rfl, _, rfl, Below.refl _ _, rfl⟩
          · intro xs W hW hn
            simp [flowNeeds, Region.binds] at hn
            simp only [flowAct, zwc, zwn]
            try simp only [hn]
            go_wp2_with (fail)
            exact ⟨rfl, _, rfl, Below.refl _ _, rfl⟩
          · intro xs W hW hn
            simp [flowNeeds, Region.binds] at hn
            simp only [flowAct, zwc, zwn]
            try simp only [hn]
            go_wp2_with (fail)
            exact ⟨rfl, _, rfl, Below.refl _ _, rfl⟩
        · intro xs W hW hall
          simp only [flowAll, and_true, Nat.zero_add, Nat.reduceAdd] at hall
          obtain ⟨-,-,-,-,-,-,-,-,-,-,-,-,-,-,-,-,-,-,-,-,-,-, e22⟩ := hall
          simp only [flowAct, zwc, zwn]
          simp only [e22]
          go_wp2
          go_ret
          exact ⟨by rw [HRR.out]; rfl, HB1.out.trans (hW.mono HB1.out.size)⟩
      | true =>
        by_cases hss : s = 2
        · have hsb : (s == 2) = true := by simpa using hss
          subst hss
          rw [hsb] at HRR0
          clear hsb
          go_enter Tryd.func20, Tryd.ntmps20
          go_upto_region 4 with (go_at_call 32; (with_reducible refine (HSG.out _).mono ?_); rintro e9 w2 ⟨rfl, hb2⟩; obtain ⟨c0, c1, c2, c3, c4, c5⟩ := HC0.out w2 hb2)
          have HB1 := Lib.hid (HB0.out.trans (hb2.mono HB0.out.size))
          have HCW := Lib.hid (fun W (h : Below w2.heap.size w2 W) => HC0.out W (hb2.trans (h.mono hb2.size)))
          clear hb2 HB0 HC0 HSG c0 c1 c2 c3 c4 c5
          obtain ⟨B, hB⟩ : ∃ z, w.heap.size = z := ⟨_, rfl⟩
          simp only [hB] at HCW ⊢
          have HBe := Lib.hid hB
          clear hB
          cases VG with
          | false =>
            have HRR := Lib.hid (show r = false by rw [HRR0.out]; rfl)
            clear HRR0
            refine wp_region_flow [none,none, some 22, none,none,none,none,none,none,none,none,none,none,none,none,none,none,none,none,none,none,none,none, some 0, some 1, some 2, some 3, some 4, some 5, some 6, some 7, some 8, some 9, some 10, some 11, some 12, some 13, some 14, some 15, some 16, some 17, some 18, some 19, some 20, some 21] (fun i => [undef,undef,undef,undef,undef,undef,undef,undef,undef,undef,undef,undef,undef,undef,undef,undef,undef,undef,undef,undef,undef,undef, .bool false].getD i undef) [(fun v _ => v = .bool true), (fun v _ => v = .bool true), (fun v _ => v = .pointer (some ⟨B, 4, none⟩)), (fun v _ => v = .agg #[.int .i64 a, .int .i64 b]), (fun v _ => v = .bool false), (fun v _ => v = .bool false), (fun v _ => v = .bool false), (fun v _ => v = undef), (fun v _ => v = undef), (fun v _ => v = undef), (fun v _ => v = .bool false), (fun v _ => v = .bool false), (fun v _ => v = undef), (fun v _ => v = undef), (fun v _ => v = undef), (fun v _ => v = undef), (fun v _ => v = undef), (fun v _ => v = undef), (fun v _ => v = undef), (fun v _ => v = undef), (fun v _ => v = undef), (fun v _ => v = .bool false), (fun v _ => v = .bool false)] (by kernel_rfl) (by kernel_rfl) rfl rfl rfl ?_ ?_ ?_
            · intro g hg v X Y hX hY hv
              simp only [List.mem_cons, List.not_mem_nil, or_false] at hg
              rcases hg with rfl | rfl | rfl | rfl | rfl | rfl | rfl | rfl | rfl | rfl | rfl | rfl | rfl | rfl | rfl | rfl | rfl | rfl | rfl | rfl | rfl | rfl | rfl
              all_goals first
                | exact hv
                | exact hv.kept hY
            · simp only [flowOps, and_true]
              refine ⟨?_,?_,?_,?_,?_,?_,?_,?_,?_,?_,?_,?_,?_,?_,?_,?_,?_,?_,?_,?_,?_,?_,?_⟩
              · intro xs W hW hn
                simp only [flowAct, zwc, zwn]
                go_wp2_with (fail)
                exact ⟨rfl, _, rfl, Below.refl _ _, rfl⟩
              · intro xs W hW hn
                simp [flowNeeds, Region.binds] at hn
                simp only [flowAct, zwc, zwn]
                try simp only [hn]
                go_wp2_with (fail)
                exact ⟨rfl, _, rfl, Below.refl _ _, rfl⟩
              · intro xs W hW hn
                simp [flowNeeds, Region.binds] at hn
                simp only [flowAct, zwc, zwn]
                try simp only [hn]
                go_wp2_with (fail)
                exact ⟨rfl, _, rfl, Below.refl _ _, rfl⟩
              · intro xs W hW hn
                obtain ⟨c0, c1, c2, c3, c4, c5⟩ := HCW.out W hW
                simp [flowNeeds, Region.binds] at hn
                simp only [flowAct, zwc, zwn]
                try simp only [hn]
                go_wp2_with (fail)
                exact ⟨rfl, _, rfl, Below.refl _ _, rfl⟩
              · intro xs W hW hn
                simp [flowNeeds, Region.binds] at hn
                simp only [flowAct, zwc, zwn]
                try simp only [hn]
                go_wp2_with (go_at_call 33; (with_reducible refine (HVG.out _).mono ?_); rintro e9 w9 ⟨rfl, hb9⟩)
                exact ⟨rfl, _, rfl, hb9, rfl⟩
              · intro xs W hW hn
                simp [flowNeeds, Region.binds] at hn
                simp only [flowAct, zwc, zwn]
                try simp only [hn]
                go_wp2_with (fail)
                exact ⟨rfl, _, rfl, Below.refl _ _, rfl⟩
              · intro xs W hW hn
                simp [flowNeeds, Region.binds] at hn
                simp only [flowAct, zwc, zwn]
                try simp only [hn]
                go_wp2_with (fail)
                exact ⟨rfl, _, rfl, Below.refl _ _, rfl⟩
              · intro xs W hW hn
                simp [flowNeeds, Region.binds] at hn
                simp only [flowAct, zwc, zwn]
                try simp only [hn]
                go_wp2_with (fail)
                exact ⟨rfl, _, rfl, Below.refl _ _, rfl⟩
              · intro xs W hW hn
                simp [flowNeeds, Region.binds] at hn
                simp only [flowAct, zwc, zwn]
                try simp only [hn]
                go_wp2_with (fail)
                exact ⟨rfl, _, rfl, Below.refl _ _, rfl⟩
              · intro xs W hW hn
                simp [flowNeeds, Region.binds] at hn
                simp only [flowAct, zwc, zwn]
                try simp only [hn]
                go_wp2_with (fail)
                exact ⟨rfl, _, rfl, Below.refl _ _, rfl⟩
              · intro xs W hW hn
                simp [flowNeeds, Region.binds] at hn
                simp only [flowAct, zwc, zwn]
                try simp only [hn]
                go_wp2_with (fail)
                exact ⟨rfl, _, rfl, Below.refl _ _, rfl⟩
              · intro xs W hW hn
                simp [flowNeeds, Region.binds] at hn
                simp only [flowAct, zwc, zwn]
                try simp only [hn]
                go_wp2_with (fail)
                exact ⟨rfl, _, rfl, Below.refl _ _, rfl⟩
              · intro xs W hW hn
                simp [flowNeeds, Region.binds] at hn
                simp only [flowAct, zwc, zwn]
                try simp only [hn]
                go_wp2_with (fail)
                exact ⟨rfl, _, rfl, Below.refl _ _, rfl⟩
              · intro xs W hW hn
                simp [flowNeeds, Region.binds] at hn
                simp only [flowAct, zwc, zwn]
                try simp only [hn]
                go_wp2_with (fail)
                exact ⟨rfl, _, rfl, Below.refl _ _, rfl⟩
              · intro xs W hW hn
                simp [flowNeeds, Region.binds] at hn
                simp only [flowAct, zwc, zwn]
                try simp only [hn]
                go_wp2_with (fail)
                exact ⟨rfl, _, rfl, Below.refl _ _, rfl⟩
              · intro xs W hW hn
                simp [flowNeeds, Region.binds] at hn
                simp only [flowAct, zwc, zwn]
                try simp only [hn]
                go_wp2_with (fail)
                exact ⟨rfl, _, rfl, Below.refl _ _, rfl⟩
              · intro xs W hW hn
                simp [flowNeeds, Region.binds] at hn
                simp only [flowAct, zwc, zwn]
                try simp only [hn]
                go_wp2_with (fail)
                exact ⟨rfl, _, rfl, Below.refl _ _, rfl⟩
              · intro xs W hW hn
                simp [flowNeeds, Region.binds] at hn
                simp only [flowAct, zwc, zwn]
                try simp only [hn]
                go_wp2_with (fail)
                exact ⟨rfl, _, rfl, Below.refl _ _, rfl⟩
              · intro xs W hW hn
                simp [flowNeeds, Region.binds] at hn
                simp only [flowAct, zwc, zwn]
                try simp only [hn]
                go_wp2_with (fail)
                exact ⟨rfl, _, rfl, Below.refl _ _, rfl⟩
              · intro xs W hW hn
                simp [flowNeeds, Region.binds] at hn
                simp only [flowAct, zwc, zwn]
                try simp only [hn]
                go_wp2_with (fail)
                exact ⟨rfl, _, rfl, Below.refl _ _, rfl⟩
              · intro xs W hW hn
                simp [flowNeeds, Region.binds] at hn
                simp only [flowAct, zwc, zwn]
                try simp only [hn]
                go_wp2_with (fail)
                exact ⟨rfl, _, rfl, Below.refl _ _, rfl⟩
              · intro xs W hW hn
                simp [flowNeeds, Region.binds] at hn
                simp only [flowAct, zwc, zwn]
                try simp only [hn]
                go_wp2_with (fail)
                exact ⟨rfl, _, rfl, Below.refl _ _, rfl⟩
              · intro xs W hW hn
                simp [flowNeeds, Region.binds] at hn
                simp only [flowAct, zwc, zwn]
                try simp only [hn]
                go_wp2_with (fail)
                exact ⟨rfl, _, rfl, Below.refl _ _, rfl⟩
            · intro xs W hW hall
              simp only [flowAll, and_true, Nat.zero_add, Nat.reduceAdd] at hall
              obtain ⟨-,-,-,-,-,-,-,-,-,-,-,-,-,-,-,-,-,-,-,-,-,-, e22⟩ := hall
              simp only [flowAct, zwc, zwn]
              simp only [e22]
              go_wp2
              go_ret
              exact ⟨by rw [HRR.out]; rfl, HB1.out.trans (hW.mono HB1.out.size)⟩
          | true =>
            by_cases hq : 1 ≤ seq
            · have HRR := Lib.hid (show r = (seq == b) by rw [HRR0.out]; simp [hq])
              clear HRR0
              refine wp_region_flow [none,none, some 22, none,none,none,none,none,none,none,none,none,none,none,none,none,none,none,none,none,none,none,none, some 0, some 1, some 2, some 3, some 4, some 5, some 6, some 7, some 8, some 9, some 10, some 11, some 12, some 13, some 14, some 15, some 16, some 17, some 18, some 19, some 20, some 21] (fun i => [undef,undef,undef,undef,undef,undef,undef,undef,undef,undef,undef,undef,undef,undef,undef,undef,undef,undef,undef,undef,undef,undef, .bool false].getD i undef) [(fun v _ => v = .bool true), (fun v _ => v = .bool true), (fun v _ => v = .pointer (some ⟨B, 4, none⟩)), (fun v _ => v = .agg #[.int .i64 a, .int .i64 b]), (fun v _ => v = .bool true), (fun v _ => v = .bool true), (fun v _ => v = .bool true), (fun v _ => v = .pointer (some ⟨B, 1, none⟩)), (fun v _ => v = .int .i64 seq), (fun v _ => v = .bool true), (fun v _ => v = .bool true), (fun v _ => v = .bool true), (fun v _ => v = .pointer (some ⟨B, 1, none⟩)), (fun v _ => v = .int .i64 seq), (fun v _ => v = .pointer (some ⟨B, 0, none⟩)), (fun v _ => v = .int .i64 2), (fun v _ => v = .int .i64 1), (fun v _ => v = .pointer (some ⟨B, 4, none⟩)), (fun v _ => v = .pointer (some ⟨B, 5, none⟩)), (fun v _ => v = .int .i64 b), (fun v _ => v = .bool (seq == b)), (fun v _ => v = .bool (seq == b)), (fun v _ => v = .bool (seq == b))] (by kernel_rfl) (by kernel_rfl) rfl rfl rfl ?_ ?_ ?_
              · intro g hg v X Y hX hY hv
                simp only [List.mem_cons, List.not_mem_nil, or_false] at hg
                rcases hg with rfl | rfl | rfl | rfl | rfl | rfl | rfl | rfl | rfl | rfl | rfl | rfl | rfl | rfl | rfl | rfl | rfl | rfl | rfl | rfl | rfl | rfl | rfl
                all_goals first
                  | exact hv
                  | exact hv.kept hY
              · simp only [flowOps, and_true]
                refine ⟨?_,?_,?_,?_,?_,?_,?_,?_,?_,?_,?_,?_,?_,?_,?_,?_,?_,?_,?_,?_,?_,?_,?_⟩
                · intro xs W hW hn
                  simp only [flowAct, zwc, zwn]
                  go_wp2_with (fail)
                  exact ⟨rfl, _, rfl, Below.refl _ _, rfl⟩
                · intro xs W hW hn
                  simp [flowNeeds, Region.binds] at hn
                  simp only [flowAct, zwc, zwn]
                  try simp only [hn]
                  go_wp2_with (fail)
                  exact ⟨rfl, _, rfl, Below.refl _ _, rfl⟩
                · intro xs W hW hn
                  simp [flowNeeds, Region.binds] at hn
                  simp only [flowAct, zwc, zwn]
                  try simp only [hn]
                  go_wp2_with (fail)
                  exact ⟨rfl, _, rfl, Below.refl _ _, rfl⟩
                · intro xs W hW hn
                  obtain ⟨c0, c1, c2, c3, c4, c5⟩ := HCW.out W hW
                  simp [flowNeeds, Region.binds] at hn
                  simp only [flowAct, zwc, zwn]
                  try simp only [hn]
                  go_wp2_with (fail)
                  exact ⟨rfl, _, rfl, Below.refl _ _, rfl⟩
                · intro xs W hW hn
                  simp [flowNeeds, Region.binds] at hn
                  simp only [flowAct, zwc, zwn]
                  try simp only [hn]
                  go_wp2_with (go_at_call 33; (with_reducible refine (HVG.out _).mono ?_); rintro e9 w9 ⟨rfl, hb9⟩)
                  exact ⟨rfl, _, rfl, hb9, rfl⟩
                · intro xs W hW hn
                  simp [flowNeeds, Region.binds] at hn
                  simp only [flowAct, zwc, zwn]
                  try simp only [hn]
                  go_wp2_with (fail)
                  exact ⟨rfl, _, rfl, Below.refl _ _, rfl⟩
                · intro xs W hW hn
                  simp [flowNeeds, Region.binds] at hn
                  simp only [flowAct, zwc, zwn]
                  try simp only [hn]
                  go_wp2_with (fail)
                  exact ⟨rfl, _, rfl, Below.refl _ _, rfl⟩
                · intro xs W hW hn
                  simp [flowNeeds, Region.binds] at hn
                  simp only [flowAct, zwc, zwn]
                  try simp only [hn]
                  go_wp2_with (fail)
                  exact ⟨rfl, _, rfl, Below.refl _ _, rfl⟩
                · intro xs W hW hn
                  obtain ⟨c0, c1, c2, c3, c4, c5⟩ := HCW.out W hW
                  simp [flowNeeds, Region.binds] at hn
                  simp only [flowAct, zwc, zwn]
                  try simp only [hn]
                  go_wp2_with (fail)
                  exact ⟨rfl, _, rfl, Below.refl _ _, rfl⟩
                · intro xs W hW hn
                  simp [flowNeeds, Region.binds] at hn
                  simp only [flowAct, zwc, zwn]
                  try simp only [hn]
                  go_wp2_with (fail)
                  exact ⟨rfl, _, rfl, Below.refl _ _, by first | rfl | go_num | (simp; done)⟩
                · intro xs W hW hn
                  simp [flowNeeds, Region.binds] at hn
                  simp only [flowAct, zwc, zwn]
                  try simp only [hn]
                  go_wp2_with (fail)
                  exact ⟨rfl, _, rfl, Below.refl _ _, rfl⟩
                · intro xs W hW hn
                  simp [flowNeeds, Region.binds] at hn
                  simp only [flowAct, zwc, zwn]
                  try simp only [hn]
                  go_wp2_with (fail)
                  exact ⟨rfl, _, rfl, Below.refl _ _, rfl⟩
                · intro xs W hW hn
                  simp [flowNeeds, Region.binds] at hn
                  simp only [flowAct, zwc, zwn]
                  try simp only [hn]
                  go_wp2_with (fail)
                  exact ⟨rfl, _, rfl, Below.refl _ _, rfl⟩
                · intro xs W hW hn
                  obtain ⟨c0, c1, c2, c3, c4, c5⟩ := HCW.out W hW
                  simp [flowNeeds, Region.binds] at hn
                  simp only [flowAct, zwc, zwn]
                  try simp only [hn]
                  go_wp2_with (fail)
                  exact ⟨rfl, _, rfl, Below.refl _ _, rfl⟩
                · intro xs W hW hn
                  simp [flowNeeds, Region.binds] at hn
                  simp only [flowAct, zwc, zwn]
                  try simp only [hn]
                  go_wp2_with (fail)
                  exact ⟨rfl, _, rfl, Below.refl _ _, rfl⟩
                · intro xs W hW hn
                  obtain ⟨c0, c1, c2, c3, c4, c5⟩ := HCW.out W hW
                  simp [flowNeeds, Region.binds] at hn
                  simp only [flowAct, zwc, zwn]
                  try simp only [hn]
                  go_wp2_with (fail)
                  exact ⟨rfl, _, rfl, Below.refl _ _, rfl⟩
                · intro xs W hW hn
                  simp [flowNeeds, Region.binds] at hn
                  simp only [flowAct, zwc, zwn]
                  try simp only [hn]
                  go_wp2_with (fail)
                  exact ⟨rfl, _, rfl, Below.refl _ _, by first | rfl | go_num | (simp; done)⟩
                · intro xs W hW hn
                  simp [flowNeeds, Region.binds] at hn
                  simp only [flowAct, zwc, zwn]
                  try simp only [hn]
                  go_wp2_with (fail)
                  exact ⟨rfl, _, rfl, Below.refl _ _, rfl⟩
                · intro xs W hW hn
                  simp [flowNeeds, Region.binds] at hn
                  simp only [flowAct, zwc, zwn]
                  try simp only [hn]
                  go_wp2_with (fail)
                  exact ⟨rfl, _, rfl, Below.refl _ _, by first | rfl | go_num | (simp; done)⟩
                · intro xs W hW hn
                  obtain ⟨c0, c1, c2, c3, c4, c5⟩ := HCW.out W hW
                  simp [flowNeeds, Region.binds] at hn
                  simp only [flowAct, zwc, zwn]
                  try simp only [hn]
                  go_wp2_with (fail)
                  exact ⟨rfl, _, rfl, Below.refl _ _, rfl⟩
                · intro xs W hW hn
                  simp [flowNeeds, Region.binds] at hn
                  simp only [flowAct, zwc, zwn]
                  try simp only [hn]
                  go_wp2_with (fail)
                  exact ⟨rfl, _, rfl, Below.refl _ _, by first | rfl | go_num | (simp; done)⟩
                · intro xs W hW hn
                  simp [flowNeeds, Region.binds] at hn
                  simp only [flowAct, zwc, zwn]
                  try simp only [hn]
                  go_wp2_with (fail)
                  exact ⟨rfl, _, rfl, Below.refl _ _, rfl⟩
                · intro xs W hW hn
                  simp [flowNeeds, Region.binds] at hn
                  simp only [flowAct, zwc, zwn]
                  try simp only [hn]
                  go_wp2_with (fail)
                  exact ⟨rfl, _, rfl, Below.refl _ _, rfl⟩
              · intro xs W hW hall
                simp only [flowAll, and_true, Nat.zero_add, Nat.reduceAdd] at hall
                obtain ⟨-,-,-,-,-,-,-,-,-,-,-,-,-,-,-,-,-,-,-,-,-,-, e22⟩ := hall
                simp only [flowAct, zwc, zwn]
                simp only [e22]
                go_wp2
                go_ret
                exact ⟨by rw [HRR.out]; rfl, HB1.out.trans (hW.mono HB1.out.size)⟩
            · have HRR := Lib.hid (show r = false by rw [HRR0.out]; simp [hq])
              clear HRR0
              refine wp_region_flow [none,none, some 22, none,none,none,none,none,none,none,none,none,none,none,none,none,none,none,none,none,none,none,none, some 0, some 1, some 2, some 3, some 4, some 5, some 6, some 7, some 8, some 9, some 10, some 11, some 12, some 13, some 14, some 15, some 16, some 17, some 18, some 19, some 20, some 21] (fun i => [undef,undef,undef,undef,undef,undef,undef,undef,undef,undef,undef,undef,undef,undef,undef,undef,undef,undef,undef,undef,undef,undef, .bool false].getD i undef) [(fun v _ => v = .bool true), (fun v _ => v = .bool true), (fun v _ => v = .pointer (some ⟨B, 4, none⟩)), (fun v _ => v = .agg #[.int .i64 a, .int .i64 b]), (fun v _ => v = .bool true), (fun v _ => v = .bool true), (fun v _ => v = .bool true), (fun v _ => v = .pointer (some ⟨B, 1, none⟩)), (fun v _ => v = .int .i64 seq), (fun v _ => v = .bool false), (fun v _ => v = .bool false), (fun v _ => v = .bool false), (fun v _ => v = undef), (fun v _ => v = undef), (fun v _ => v = undef), (fun v _ => v = undef), (fun v _ => v = undef), (fun v _ => v = undef), (fun v _ => v = undef), (fun v _ => v = undef), (fun v _ => v = undef), (fun v _ => v = .bool false), (fun v _ => v = .bool false)] (by kernel_rfl) (by kernel_rfl) rfl rfl rfl ?_ ?_ ?_
              · intro g hg v X Y hX hY hv
                simp only [List.mem_cons, List.not_mem_nil, or_false] at hg
                rcases hg with rfl | rfl | rfl | rfl | rfl | rfl | rfl | rfl | rfl | rfl | rfl | rfl | rfl | rfl | rfl | rfl | rfl | rfl | rfl | rfl | rfl | rfl | rfl
                all_goals first
                  | exact hv
                  | exact hv.kept hY
              · simp only [flowOps, and_true]
                refine ⟨?_,?_,?_,?_,?_,?_,?_,?_,?_,?_,?_,?_,?_,?_,?_,?_,?_,?_,?_,?_,?_,?_,?_⟩
                · intro xs W hW hn
                  simp only [flowAct, zwc, zwn]
                  go_wp2_with (fail)
                  exact ⟨rfl, _, rfl, Below.refl _ _, rfl⟩
                · intro xs W hW hn
                  simp [flowNeeds, Region.binds] at hn
                  simp only [flowAct, zwc, zwn]
                  try simp only [hn]
                  go_wp2_with (fail)
                  exact ⟨rfl, _, rfl, Below.refl _ _, rfl⟩
                · intro xs W hW hn
                  simp [flowNeeds, Region.binds] at hn
                  simp only [flowAct, zwc, zwn]
                  try simp only [hn]
                  go_wp2_with (fail)
                  exact ⟨rfl, _, rfl, Below.refl _ _, rfl⟩
                · intro xs W hW hn
                  obtain ⟨c0, c1, c2, c3, c4, c5⟩ := HCW.out W hW
                  simp [flowNeeds, Region.binds] at hn
                  simp only [flowAct, zwc, zwn]
                  try simp only [hn]
                  go_wp2_with (fail)
                  exact ⟨rfl, _, rfl, Below.refl _ _, rfl⟩
                · intro xs W hW hn
                  simp [flowNeeds, Region.binds] at hn
                  simp only [flowAct, zwc, zwn]
                  try simp only [hn]
                  go_wp2_with (go_at_call 33; (with_reducible refine (HVG.out _).mono ?_); rintro e9 w9 ⟨rfl, hb9⟩)
                  exact ⟨rfl, _, rfl, hb9, rfl⟩
                · intro xs W hW hn
                  simp [flowNeeds, Region.binds] at hn
                  simp only [flowAct, zwc, zwn]
                  try simp only [hn]
                  go_wp2_with (fail)
                  exact ⟨rfl, _, rfl, Below.refl _ _, rfl⟩
                · intro xs W hW hn
                  simp [flowNeeds, Region.binds] at hn
                  simp only [flowAct, zwc, zwn]
                  try simp only [hn]
                  go_wp2_with (fail)
                  exact ⟨rfl, _, rfl, Below.refl _ _, rfl⟩
                · intro xs W hW hn
                  simp [flowNeeds, Region.binds] at hn
                  simp only [flowAct, zwc, zwn]
                  try simp only [hn]
                  go_wp2_with (fail)
                  exact ⟨rfl, _, rfl, Below.refl _ _, rfl⟩
                · intro xs W hW hn
                  obtain ⟨c0, c1, c2, c3, c4, c5⟩ := HCW.out W hW
                  simp [flowNeeds, Region.binds] at hn
                  simp only [flowAct, zwc, zwn]
                  try simp only [hn]
                  go_wp2_with (fail)
                  exact ⟨rfl, _, rfl, Below.refl _ _, rfl⟩
                · intro xs W hW hn
                  simp [flowNeeds, Region.binds] at hn
                  simp only [flowAct, zwc, zwn]
                  try simp only [hn]
                  go_wp2_with (fail)
                  exact ⟨rfl, _, rfl, Below.refl _ _, by first | rfl | go_num | (simp; done)⟩
                · intro xs W hW hn
                  simp [flowNeeds, Region.binds] at hn
                  simp only [flowAct, zwc, zwn]
                  try simp only [hn]
                  go_wp2_with (fail)
                  exact ⟨rfl, _, rfl, Below.refl _ _, rfl⟩
                · intro xs W hW hn
                  simp [flowNeeds, Region.binds] at hn
                  simp only [flowAct, zwc, zwn]
                  try simp only [hn]
                  go_wp2_with (fail)
                  exact ⟨rfl, _, rfl, Below.refl _ _, rfl⟩
                · intro xs W hW hn
                  simp [flowNeeds, Region.binds] at hn
                  simp only [flowAct, zwc, zwn]
                  try simp only [hn]
                  go_wp2_with (fail)
                  exact ⟨rfl, _, rfl, Below.refl _ _, rfl⟩
                · intro xs W hW hn
                  simp [flowNeeds, Region.binds] at hn
                  simp only [flowAct, zwc, zwn]
                  try simp only [hn]
                  go_wp2_with (fail)
                  exact ⟨rfl, _, rfl, Below.refl _ _, rfl⟩
                · intro xs W hW hn
                  simp [flowNeeds, Region.binds] at hn
                  simp only [flowAct, zwc, zwn]
                  try simp only [hn]
                  go_wp2_with (fail)
                  exact ⟨rfl, _, rfl, Below.refl _ _, rfl⟩
                · intro xs W hW hn
                  simp [flowNeeds, Region.binds] at hn
                  simp only [flowAct, zwc, zwn]
                  try simp only [hn]
                  go_wp2_with (fail)
                  exact ⟨rfl, _, rfl, Below.refl _ _, rfl⟩
                · intro xs W hW hn
                  simp [flowNeeds, Region.binds] at hn
                  simp only [flowAct, zwc, zwn]
                  try simp only [hn]
                  go_wp2_with (fail)
                  exact ⟨rfl, _, rfl, Below.refl _ _, rfl⟩
                · intro xs W hW hn
                  simp [flowNeeds, Region.binds] at hn
                  simp only [flowAct, zwc, zwn]
                  try simp only [hn]
                  go_wp2_with (fail)
                  exact ⟨rfl, _, rfl, Below.refl _ _, rfl⟩
                · intro xs W hW hn
                  simp [flowNeeds, Region.binds] at hn
                  simp only [flowAct, zwc, zwn]
                  try simp only [hn]
                  go_wp2_with (fail)
                  exact ⟨rfl, _, rfl, Below.refl _ _, rfl⟩
                · intro xs W hW hn
                  simp [flowNeeds, Region.binds] at hn
                  simp only [flowAct, zwc, zwn]
                  try simp only [hn]
                  go_wp2_with (fail)
                  exact ⟨rfl, _, rfl, Below.refl _ _, rfl⟩
                · intro xs W hW hn
                  simp [flowNeeds, Region.binds] at hn
                  simp only [flowAct, zwc, zwn]
                  try simp only [hn]
                  go_wp2_with (fail)
                  exact ⟨rfl, _, rfl, Below.refl _ _, rfl⟩
                · intro xs W hW hn
                  simp [flowNeeds, Region.binds] at hn
                  simp only [flowAct, zwc, zwn]
                  try simp only [hn]
                  go_wp2_with (fail)
                  exact ⟨rfl, _, rfl, Below.refl _ _, rfl⟩
                · intro xs W hW hn
                  simp [flowNeeds, Region.binds] at hn
                  simp only [flowAct, zwc, zwn]
                  try simp only [hn]
                  go_wp2_with (fail)
                  exact ⟨rfl, _, rfl, Below.refl _ _, rfl⟩
              · intro xs W hW hall
                simp only [flowAll, and_true, Nat.zero_add, Nat.reduceAdd] at hall
                obtain ⟨-,-,-,-,-,-,-,-,-,-,-,-,-,-,-,-,-,-,-,-,-,-, e22⟩ := hall
                simp only [flowAct, zwc, zwn]
                simp only [e22]
                go_wp2
                go_ret
                exact ⟨by rw [HRR.out]; rfl, HB1.out.trans (hW.mono HB1.out.size)⟩
        · have hsb : (s == 2) = false := by simpa using hss
          have HRR := Lib.hid (show r = false by rw [HRR0.out, hsb]; rfl)
          clear HRR0
          go_enter Tryd.func20, Tryd.ntmps20
          go_upto_region 4 with (go_at_call 32; (with_reducible refine (HSG.out _).mono ?_); rintro e9 w2 ⟨rfl, hb2⟩; obtain ⟨c0, c1, c2, c3, c4, c5⟩ := HC0.out w2 hb2)
          have HB1 := Lib.hid (HB0.out.trans (hb2.mono HB0.out.size))
          have HCW := Lib.hid (fun W (h : Below w2.heap.size w2 W) => HC0.out W (hb2.trans (h.mono hb2.size)))
          clear hb2 HB0 HC0 HSG c0 c1 c2 c3 c4 c5
          obtain ⟨B, hB⟩ : ∃ z, w.heap.size = z := ⟨_, rfl⟩
          simp only [hB] at HCW ⊢
          have HBe := Lib.hid hB
          clear hB
          refine wp_region_flow [none,none, some 22, none,none,none,none,none,none,none,none,none,none,none,none,none,none,none,none,none,none,none,none, some 0, some 1, some 2, some 3, some 4, some 5, some 6, some 7, some 8, some 9, some 10, some 11, some 12, some 13, some 14, some 15, some 16, some 17, some 18, some 19, some 20, some 21] (fun i => [undef,undef,undef,undef,undef,undef,undef,undef,undef,undef,undef,undef,undef,undef,undef,undef,undef,undef,undef,undef,undef,undef, .bool false].getD i undef) [(fun v _ => v = .bool false), (fun v _ => v = .bool false), (fun v _ => v = undef), (fun v _ => v = undef), (fun v _ => v = undef), (fun v _ => v = .bool false), (fun v _ => v = .bool false), (fun v _ => v = undef), (fun v _ => v = undef), (fun v _ => v = undef), (fun v _ => v = .bool false), (fun v _ => v = .bool false), (fun v _ => v = undef), (fun v _ => v = undef), (fun v _ => v = undef), (fun v _ => v = undef), (fun v _ => v = undef), (fun v _ => v = undef), (fun v _ => v = undef), (fun v _ => v = undef), (fun v _ => v = undef), (fun v _ => v = .bool false), (fun v _ => v = .bool false)] (by kernel_rfl) (by kernel_rfl) rfl rfl rfl ?_ ?_ ?_
          · intro g hg v X Y hX hY hv
            simp only [List.mem_cons, List.not_mem_nil, or_false] at hg
            rcases hg with rfl | rfl | rfl | rfl | rfl | rfl | rfl | rfl | rfl | rfl | rfl | rfl | rfl | rfl | rfl | rfl | rfl | rfl | rfl | rfl | rfl | rfl | rfl
            all_goals first
              | exact hv
              | exact hv.kept hY
          · simp only [flowOps, and_true]
            refine ⟨?_,?_,?_,?_,?_,?_,?_,?_,?_,?_,?_,?_,?_,?_,?_,?_,?_,?_,?_,?_,?_,?_,?_⟩
            · intro xs W hW hn
              simp only [flowAct, zwc, zwn]
              go_wp2_with (fail)
              exact ⟨rfl, _, rfl, Below.refl _ _, rfl⟩
            · intro xs W hW hn
              simp [flowNeeds, Region.binds] at hn
              simp only [flowAct, zwc, zwn]
              try simp only [hn]
              go_wp2_with (fail)
              exact ⟨rfl, _, rfl, Below.refl _ _, rfl⟩
            · intro xs W hW hn
              simp [flowNeeds, Region.binds] at hn
              simp only [flowAct, zwc, zwn]
              try simp only [hn]
              go_wp2_with (fail)
              exact ⟨rfl, _, rfl, Below.refl _ _, rfl⟩
            · intro xs W hW hn
              simp [flowNeeds, Region.binds] at hn
              simp only [flowAct, zwc, zwn]
              try simp only [hn]
              go_wp2_with (fail)
              exact ⟨rfl, _, rfl, Below.refl _ _, rfl⟩
            · intro xs W hW hn
              simp [flowNeeds, Region.binds] at hn
              simp only [flowAct, zwc, zwn]
              try simp only [hn]
              go_wp2_with (fail)
              exact ⟨rfl, _, rfl, Below.refl _ _, rfl⟩
            · intro xs W hW hn
              simp [flowNeeds, Region.binds] at hn
              simp only [flowAct, zwc, zwn]
              try simp only [hn]
              go_wp2_with (fail)
              exact ⟨rfl, _, rfl, Below.refl _ _, rfl⟩
            · intro xs W hW hn
              simp [flowNeeds, Region.binds] at hn
              simp only [flowAct, zwc, zwn]
              try simp only [hn]
              go_wp2_with (fail)
              exact ⟨rfl, _, rfl, Below.refl _ _, rfl⟩
            · intro xs W hW hn
              simp [flowNeeds, Region.binds] at hn
              simp only [flowAct, zwc, zwn]
              try simp only [hn]
              go_wp2_with (fail)
              exact ⟨rfl, _, rfl, Below.refl _ _, rfl⟩
            · intro xs W hW hn
              simp [flowNeeds, Region.binds] at hn
              simp only [flowAct, zwc, zwn]
              try simp only [hn]
              go_wp2_with (fail)
              exact ⟨rfl, _, rfl, Below.refl _ _, rfl⟩
            · intro xs W hW hn
              simp [flowNeeds, Region.binds] at hn
              simp only [flowAct, zwc, zwn]
              try simp only [hn]
              go_wp2_with (fail)
              exact ⟨rfl, _, rfl, Below.refl _ _, rfl⟩
            · intro xs W hW hn
              simp [flowNeeds, Region.binds] at hn
              simp only [flowAct, zwc, zwn]
              try simp only [hn]
              go_wp2_with (fail)
              exact ⟨rfl, _, rfl, Below.refl _ _, rfl⟩
            · intro xs W hW hn
              simp [flowNeeds, Region.binds] at hn
              simp only [flowAct, zwc, zwn]
              try simp only [hn]
              go_wp2_with (fail)
              exact ⟨rfl, _, rfl, Below.refl _ _, rfl⟩
            · intro xs W hW hn
              simp [flowNeeds, Region.binds] at hn
              simp only [flowAct, zwc, zwn]
              try simp only [hn]
              go_wp2_with (fail)
              exact ⟨rfl, _, rfl, Below.refl _ _, rfl⟩
            · intro xs W hW hn
              simp [flowNeeds, Region.binds] at hn
              simp only [flowAct, zwc, zwn]
              try simp only [hn]
              go_wp2_with (fail)
              exact ⟨rfl, _, rfl, Below.refl _ _, rfl⟩
            · intro xs W hW hn
              simp [flowNeeds, Region.binds] at hn
              simp only [flowAct, zwc, zwn]
              try simp only [hn]
              go_wp2_with (fail)
              exact ⟨rfl, _, rfl, Below.refl _ _, rfl⟩
            · intro xs W hW hn
              simp [flowNeeds, Region.binds] at hn
              simp only [flowAct, zwc, zwn]
              try simp only [hn]
              go_wp2_with (fail)
              exact ⟨rfl, _, rfl, Below.refl _ _, rfl⟩
            · intro xs W hW hn
              simp [flowNeeds, Region.binds] at hn
              simp only [flowAct, zwc, zwn]
              try simp only [hn]
              go_wp2_with (fail)
              exact ⟨rfl, _, rfl, Below.refl _ _, rfl⟩
            · intro xs W hW hn
              simp [flowNeeds, Region.binds] at hn
              simp only [flowAct, zwc, zwn]
              try simp only [hn]
              go_wp2_with (fail)
              exact ⟨rfl, _, rfl, Below.refl _ _, rfl⟩
            · intro xs W hW hn
              simp [flowNeeds, Region.binds] at hn
              simp only [flowAct, zwc, zwn]
              try simp only [hn]
              go_wp2_with (fail)
              exact ⟨rfl, _, rfl, Below.refl _ _, rfl⟩
            · intro xs W hW hn
              simp [flowNeeds, Region.binds] at hn
              simp only [flowAct, zwc, zwn]
              try simp only [hn]
              go_wp2_with (fail)
              exact ⟨rfl, _, rfl, Below.refl _ _, rfl⟩
            · intro xs W hW hn
              simp [flowNeeds, Region.binds] at hn
              simp only [flowAct, zwc, zwn]
              try simp only [hn]
              go_wp2_with (fail)
              exact ⟨rfl, _, rfl, Below.refl _ _, rfl⟩
            · intro xs W hW hn
              simp [flowNeeds, Region.binds] at hn
              simp only [flowAct, zwc, zwn]
              try simp only [hn]
              go_wp2_with (fail)
              exact ⟨rfl, _, rfl, Below.refl _ _, rfl⟩
            · intro xs W hW hn
              simp [flowNeeds, Region.binds] at hn
              simp only [flowAct, zwc, zwn]
              try simp only [hn]
              go_wp2_with (fail)
              exact ⟨rfl, _, rfl, Below.refl _ _, rfl⟩
          · intro xs W hW hall
            simp only [flowAll, and_true, Nat.zero_add, Nat.reduceAdd] at hall
            obtain ⟨-,-,-,-,-,-,-,-,-,-,-,-,-,-,-,-,-,-,-,-,-,-, e22⟩ := hall
            simp only [flowAct, zwc, zwn]
            simp only [e22]
            go_wp2
            go_ret
            exact ⟨by rw [HRR.out]; rfl, HB1.out.trans (hW.mono HB1.out.size)⟩
    · have e1 : (site == 1) = false := by simpa using h1
      have e2 : (site == 2) = false := by simpa using h2
      have HRR := Lib.hid (show goodHeadS site seq n s a b = false by simp [goodHeadS, e1, e2])
      clear e1 e2
      have e1 : (site != 1) = true := by simpa using h1
      have e2 : (site != 2) = true := by simpa using h2
      clear h1 h2
      go_enter Tryd.func20, Tryd.ntmps20
      go_wp2
      go_ret
      exact ⟨by rw [HRR.out]; rfl, HB0.out⟩
set_option maxHeartbeats 12800000 in
theorem goodwrites_c {w : World} {x2 : Option Addr} {m cap2 : Nat} {l : List Wr} (n1 : Nat) (hl : Wrs w x2 m cap2 l) (hx : WShort l) : Calls Tryd.prog 21 #[.int .i64 (n1 : Int), .slice x2 m cap2] w (Tells (.bool (gwsS n1 l)) w) := by
  have hll := hl.len
  have hle2 := hl.le
  have hmax2 := hl.max
  have H2 := Lib.hid (fun (k : Nat) => @gws_no n1 l k)
  have H3 := Lib.hid (@gws_yes n1 l)
  have H4 := Lib.hid (show ¬ (1 ≤ l.length ∧ l.length ≤ 8) → gwsS n1 l = false from fun h => by
    unfold gwsS
    by_cases h1 : 1 ≤ l.length
    · have h8 : ¬ l.length ≤ 8 := fun h8 => h ⟨h1, h8⟩
      simp [h8]
    · simp [h1])
  have HL := Lib.hid hl
  have HXS := Lib.hid hx
  obtain ⟨R, hR⟩ : ∃ z, gwsS n1 l = z := ⟨_, rfl⟩
  rw [hR, hll] at H3 H4
  rw [hR] at H2 ⊢
  rw [hll] at H2
  clear hR hl hx
  by_cases h1 : m < 1
  · have h1i : (m : Int) < 1 := by omega
    have HRR := Lib.hid (H4.out (by omega))
    clear H2 H3 H4
    go_enter Tryd.func21, Tryd.ntmps21
    go_wp2
    go_ret
    exact ⟨by rw [HRR.out]; rfl, Below.refl _ _⟩
  · have h1i : ¬ (m : Int) < 1 := by omega
    by_cases h8 : 8 < m
    · have h8i : (8 : Int) < (m : Int) := by omega
      have HRR := Lib.hid (H4.out (by omega))
      clear H2 H3 H4
      go_enter Tryd.func21, Tryd.ntmps21
      go_wp2
      go_ret
      exact ⟨by rw [HRR.out]; rfl, Below.refl _ _⟩
    · have h8i : ¬ (8 : Int) < (m : Int) := by omega
      have H3b := Lib.hid (H3.out (by omega) (by omega))
      clear H4 H3
      go_enter Tryd.func21, Tryd.ntmps21
      go_wp2
      clear h1i h8i
      go_loopw [17] (fun i wr => ∃ k : Nat, k ≤ m ∧ i = .int .i64 (k : Int) ∧ (∀ j, j < k → wAt n1 l j = true) ∧ Below w.heap.size w wr) (fun i _ => m - (intOf i).toNat)
      case atStart => exact ⟨0, by omega, rfl, fun j hj => by omega, Below.refl _ _⟩
      case round =>
        obtain ⟨k, hk, rfl, ha, hB⟩ := hrel
        have HA := Lib.hid ha
        have HBr := Lib.hid hB
        clear ha hB
        by_cases hlt : k < m
        · have hki : (k : Int) < (m : Int) := by omega
          have hkc : (k : Int) < (cap2 : Int) := by omega
          obtain ⟨bk, off, rfl, hat⟩ := HL.out.place hlt
          have hxs := HXS.out _ (wr_mem (k := k) (by rw [hll]; exact hlt))
          have hwa : wAt n1 l k = (mayS n1 (l.getD k Wr.zero) && (decide (k = 0) || aheadS (l.getD (k - 1) Wr.zero) (l.getD k Wr.zero))) := rfl
          have HWA := Lib.hid hwa
          have HPL := Lib.hid (fun (j : Nat) (hj : j < m) => HL.out.place hj)
          obtain ⟨y, hy⟩ : ∃ y, l.getD k Wr.zero = y := ⟨_, rfl⟩
          rw [hy] at hat hxs HWA
          obtain ⟨kx, ix, gx, vx⟩ := y
          simp only at hat hxs
          have hwc := fun W => cgoodwrite_c n1 kx ix gx vx hxs.1 hxs.2 W
          obtain ⟨q, hq⟩ : ∃ z, mayS n1 ⟨kx, ix, gx, vx⟩ = z := ⟨_, rfl⟩
          rw [hq] at HWA
          simp only [hq] at hwc
          have HWC := Lib.hid hwc
          obtain ⟨p0, p1, p2, p3⟩ := hat wr HBr.out
          have HY := Lib.hid hy
          clear hat hxs hwa hwc hq hy
          go_upto_region 6 with (fail)
          clear p0 p1 p2 p3
          have hb6 := alloc_below wr (.cells #[.string (text kx), .int .i64 ix, .bool gx, .string (text vx)] 28)
          have hp6 := heap_alloc_new wr (.cells #[.string (text kx), .int .i64 ix, .bool gx, .string (text vx)] 28)
          have HB2 := Lib.hid (HBr.out.trans (hb6.mono HBr.out.size))
          obtain ⟨B, hB⟩ : ∃ z, wr.heap.size = z := ⟨_, rfl⟩
          rw [hB] at hp6 ⊢
          clear hB hb6 HBr
          generalize wr.alloc (.cells #[.string (text kx), .int .i64 ix, .bool gx, .string (text vx)] 28) = W6 at *
          have HPB := Lib.hid (fun W (h : Below W6.heap.size W6 W) => wr_cells (heap_below hp6 h))
          clear hp6
          cases q with
          | false =>
            have HRR := Lib.hid (H2.out k hlt (by rw [HWA.out]; rfl))
            clear HWA
            refine wp_region_flow [none,none,none,none,none,none,none,none,none,none,none,none,none,none,none,none,none,none,none,none,none,none, some 0, some 1, some 2, some 3, some 4, some 5, some 6, some 7, some 8, some 9, some 10, some 11, some 12, some 13, some 14, some 15, some 16, some 17, none] (fun i => [u22, u23, u24, u25, u26, u27, u28, u29, u30, u31, u32, u33, u34, u35, u36, u37, u38, u39].getD i undef) [(fun v _ => v = .int .i64 (n1 : Int)), (fun v _ => v = .agg #[.string (text kx), .int .i64 ix, .bool gx, .string (text vx)]), (fun v _ => v = .bool false), (fun v _ => v = .bool true), (fun v _ => v = .bool true), (fun v _ => v = undef), (fun v _ => v = undef), (fun v _ => v = undef), (fun v _ => v = undef), (fun v _ => v = undef), (fun v _ => v = undef), (fun v _ => v = undef), (fun v _ => v = undef), (fun v _ => v = undef), (fun v _ => v = undef), (fun v _ => v = undef), (fun v _ => v = undef), (fun v _ => v = .bool true)] (by kernel_rfl) (by kernel_rfl) rfl rfl rfl ?_ ?_ ?_
            · intro g hg v X Y hX hY hv
              simp only [List.mem_cons, List.not_mem_nil, or_false] at hg
              rcases hg with rfl | rfl | rfl | rfl | rfl | rfl | rfl | rfl | rfl | rfl | rfl | rfl | rfl | rfl | rfl | rfl | rfl | rfl
              all_goals first
                | exact hv
                | exact hv.kept hY
            · simp only [flowOps, and_true]
              refine ⟨?_,?_,?_,?_,?_,?_,?_,?_,?_,?_,?_,?_,?_,?_,?_,?_,?_,?_⟩
              · intro xs W hW hn
                simp only [flowAct, zwc, zwn]
                go_wp2_with (fail)
                exact ⟨rfl, _, rfl, Below.refl _ _, rfl⟩
              · intro xs W hW hn
                obtain ⟨p0, p1, p2, p3⟩ := HPB.out W hW
                simp only [flowAct, zwc, zwn]
                go_wp2_with (fail)
                exact ⟨rfl, _, rfl, Below.refl _ _, rfl⟩
              · intro xs W hW hn
                simp [flowNeeds, Region.binds] at hn
                simp only [flowAct, zwc, zwn]
                try simp only [hn]
                go_wp2_with (go_at_call 34; (with_reducible refine (HWC.out _).mono ?_); rintro e9 w9 ⟨rfl, hb9⟩)
                exact ⟨rfl, _, rfl, hb9, rfl⟩
              · intro xs W hW hn
                simp [flowNeeds, Region.binds] at hn
                simp only [flowAct, zwc, zwn]
                try simp only [hn]
                go_wp2_with (fail)
                exact ⟨rfl, _, rfl, Below.refl _ _, rfl⟩
              · intro xs W hW hn
                simp [flowNeeds, Region.binds] at hn
                simp only [flowAct, zwc, zwn]
                try simp only [hn]
                go_wp2_with (fail)
                exact ⟨rfl, _, rfl, Below.refl _ _, rfl⟩
              · intro xs W hW hn
                simp [flowNeeds, Region.binds] at hn
                simp only [flowAct, zwc, zwn]
                try simp only [hn]
                go_wp2_with (fail)
                exact ⟨rfl, _, rfl, Below.refl _ _, rfl⟩
              · intro xs W hW hn
                simp [flowNeeds, Region.binds] at hn
                simp only [flowAct, zwc, zwn]
                try simp only [hn]
                go_wp2_with (fail)
                exact ⟨rfl, _, rfl, Below.refl _ _, rfl⟩
              · intro xs W hW hn
                simp [flowNeeds, Region.binds] at hn
                simp only [flowAct, zwc, zwn]
                try simp only [hn]
                go_wp2_with (fail)
                exact ⟨rfl, _, rfl, Below.refl _ _, rfl⟩
              · intro xs W hW hn
                simp [flowNeeds, Region.binds] at hn
                simp only [flowAct, zwc, zwn]
                try simp only [hn]
                go_wp2_with (fail)
                exact ⟨rfl, _, rfl, Below.refl _ _, rfl⟩
              · intro xs W hW hn
                simp [flowNeeds, Region.binds] at hn
                simp only [flowAct, zwc, zwn]
                try simp only [hn]
                go_wp2_with (fail)
                exact ⟨rfl, _, rfl, Below.refl _ _, rfl⟩
              · intro xs W hW hn
                simp [flowNeeds, Region.binds] at hn
                simp only [flowAct, zwc, zwn]
                try simp only [hn]
                go_wp2_with (fail)
                exact ⟨rfl, _, rfl, Below.refl _ _, rfl⟩
              · intro xs W hW hn
                simp [flowNeeds, Region.binds] at hn
                simp only [flowAct, zwc, zwn]
                try simp only [hn]
                go_wp2_with (fail)
                exact ⟨rfl, _, rfl, Below.refl _ _, rfl⟩
              · intro xs W hW hn
                simp [flowNeeds, Region.binds] at hn
                simp only [flowAct, zwc, zwn]
                try simp only [hn]
                go_wp2_with (fail)
                exact ⟨rfl, _, rfl, Below.refl _ _, rfl⟩
              · intro xs W hW hn
                simp [flowNeeds, Region.binds] at hn
                simp only [flowAct, zwc, zwn]
                try simp only [hn]
                go_wp2_with (fail)
                exact ⟨rfl, _, rfl, Below.refl _ _, rfl⟩
              · intro xs W hW hn
                simp [flowNeeds, Region.binds] at hn
                simp only [flowAct, zwc, zwn]
                try simp only [hn]
                go_wp2_with (fail)
                exact ⟨rfl, _, rfl, Below.refl _ _, rfl⟩
              · intro xs W hW hn
                simp [flowNeeds, Region.binds] at hn
                simp only [flowAct, zwc, zwn]
                try simp only [hn]
                go_wp2_with (fail)
                exact ⟨rfl, _, rfl, Below.refl _ _, rfl⟩
              · intro xs W hW hn
                simp [flowNeeds, Region.binds] at hn
                simp only [flowAct, zwc, zwn]
                try simp only [hn]
                go_wp2_with (fail)
                exact ⟨rfl, _, rfl, Below.refl _ _, rfl⟩
              · intro xs W hW hn
                simp [flowNeeds, Region.binds] at hn
                simp only [flowAct, zwc, zwn]
                try simp only [hn]
                go_wp2_with (fail)
                exact ⟨rfl, _, rfl, Below.refl _ _, rfl⟩
            · intro xs W hW hall
              simp only [flowAll, and_true, Nat.zero_add, Nat.reduceAdd] at hall
              obtain ⟨-,-,-,-,-,-,-,-,-,-,-,-,-,-,-,-,-, e17⟩ := hall
              simp only [flowAct, zwc, zwn]
              simp only [e17]
              go_wp2
              go_ret
              exact ⟨by rw [HRR.out]; rfl, HB2.out.trans (hW.mono HB2.out.size)⟩
          | true =>
            by_cases hk0 : k = 0
            · subst hk0
              have HAN := Lib.hid (show ∀ j, j < 0 + 1 → wAt n1 l j = true from fun j hj => by
                obtain rfl : j = 0 := by omega
                rw [HWA.out]; rfl)
              clear HWA
              refine wp_region_flow [none,none,none,none,none,none,none,none,none,none,none,none,none,none,none,none,none,none,none,none,none,none, some 0, some 1, some 2, some 3, some 4, some 5, some 6, some 7, some 8, some 9, some 10, some 11, some 12, some 13, some 14, some 15, some 16, some 17, none] (fun i => [u22, u23, u24, u25, u26, u27, u28, u29, u30, u31, u32, u33, u34, u35, u36, u37, u38, u39].getD i undef) [(fun v _ => v = .int .i64 (n1 : Int)), (fun v _ => v = .agg #[.string (text kx), .int .i64 ix, .bool gx, .string (text vx)]), (fun v _ => v = .bool true), (fun v _ => v = .bool false), (fun v _ => v = .bool false), (fun v _ => v = .int .i64 0), (fun v _ => v = .bool false), (fun v _ => v = .bool false), (fun v _ => v = undef), (fun v _ => v = undef), (fun v _ => v = undef), (fun v _ => v = undef), (fun v _ => v = undef), (fun v _ => v = undef), (fun v _ => v = undef), (fun v _ => v = undef), (fun v _ => v = .bool false), (fun v _ => v = .bool false)] (by kernel_rfl) (by kernel_rfl) rfl rfl rfl ?_ ?_ ?_
              · intro g hg v X Y hX hY hv
                simp only [List.mem_cons, List.not_mem_nil, or_false] at hg
                rcases hg with rfl | rfl | rfl | rfl | rfl | rfl | rfl | rfl | rfl | rfl | rfl | rfl | rfl | rfl | rfl | rfl | rfl | rfl
                all_goals first
                  | exact hv
                  | exact hv.kept hY
              · simp only [flowOps, and_true]
                refine ⟨?_,?_,?_,?_,?_,?_,?_,?_,?_,?_,?_,?_,?_,?_,?_,?_,?_,?_⟩
                · intro xs W hW hn
                  simp only [flowAct, zwc, zwn]
                  go_wp2_with (fail)
                  exact ⟨rfl, _, rfl, Below.refl _ _, rfl⟩
                · intro xs W hW hn
                  obtain ⟨p0, p1, p2, p3⟩ := HPB.out W hW
                  simp only [flowAct, zwc, zwn]
                  go_wp2_with (fail)
                  exact ⟨rfl, _, rfl, Below.refl _ _, rfl⟩
                · intro xs W hW hn
                  simp [flowNeeds, Region.binds] at hn
                  simp only [flowAct, zwc, zwn]
                  try simp only [hn]
                  go_wp2_with (go_at_call 34; (with_reducible refine (HWC.out _).mono ?_); rintro e9 w9 ⟨rfl, hb9⟩)
                  exact ⟨rfl, _, rfl, hb9, rfl⟩
                · intro xs W hW hn
                  simp [flowNeeds, Region.binds] at hn
                  simp only [flowAct, zwc, zwn]
                  try simp only [hn]
                  go_wp2_with (fail)
                  exact ⟨rfl, _, rfl, Below.refl _ _, rfl⟩
                · intro xs W hW hn
                  simp [flowNeeds, Region.binds] at hn
                  simp only [flowAct, zwc, zwn]
                  try simp only [hn]
                  go_wp2_with (fail)
                  exact ⟨rfl, _, rfl, Below.refl _ _, rfl⟩
                · intro xs W hW hn
                  simp [flowNeeds, Region.binds] at hn
                  simp only [flowAct, zwc, zwn]
                  try simp only [hn]
                  go_wp2_with (fail)
                  exact ⟨rfl, _, rfl, Below.refl _ _, rfl⟩
                · intro xs W hW hn
                  simp [flowNeeds, Region.binds] at hn
                  simp only [flowAct, zwc, zwn]
                  try simp only [hn]
                  go_wp2_with (fail)
                  exact ⟨rfl, _, rfl, Below.refl _ _, rfl⟩
                · intro xs W hW hn
                  simp [flowNeeds, Region.binds] at hn
                  simp only [flowAct, zwc, zwn]
                  try simp only [hn]
                  go_wp2_with (fail)
                  exact ⟨rfl, _, rfl, Below.refl _ _, rfl⟩
                · intro xs W hW hn
                  simp [flowNeeds, Region.binds] at hn
                  simp only [flowAct, zwc, zwn]
                  try simp only [hn]
                  go_wp2_with (fail)
                  exact ⟨rfl, _, rfl, Below.refl _ _, rfl⟩
                · intro xs W hW hn
                  simp [flowNeeds, Region.binds] at hn
                  simp only [flowAct, zwc, zwn]
                  try simp only [hn]
                  go_wp2_with (fail)
                  exact ⟨rfl, _, rfl, Below.refl _ _, rfl⟩
                · intro xs W hW hn
                  simp [flowNeeds, Region.binds] at hn
                  simp only [flowAct, zwc, zwn]
                  try simp only [hn]
                  go_wp2_with (fail)
                  exact ⟨rfl, _, rfl, Below.refl _ _, rfl⟩
                · intro xs W hW hn
                  simp [flowNeeds, Region.binds] at hn
                  simp only [flowAct, zwc, zwn]
                  try simp only [hn]
                  go_wp2_with (fail)
                  exact ⟨rfl, _, rfl, Below.refl _ _, rfl⟩
                · intro xs W hW hn
                  simp [flowNeeds, Region.binds] at hn
                  simp only [flowAct, zwc, zwn]
                  try simp only [hn]
                  go_wp2_with (fail)
                  exact ⟨rfl, _, rfl, Below.refl _ _, rfl⟩
                · intro xs W hW hn
                  simp [flowNeeds, Region.binds] at hn
                  simp only [flowAct, zwc, zwn]
                  try simp only [hn]
                  go_wp2_with (fail)
                  exact ⟨rfl, _, rfl, Below.refl _ _, rfl⟩
                · intro xs W hW hn
                  simp [flowNeeds, Region.binds] at hn
                  simp only [flowAct, zwc, zwn]
                  try simp only [hn]
                  go_wp2_with (fail)
                  exact ⟨rfl, _, rfl, Below.refl _ _, rfl⟩
                · intro xs W hW hn
                  simp [flowNeeds, Region.binds] at hn
                  simp only [flowAct, zwc, zwn]
                  try simp only [hn]
                  go_wp2_with (fail)
                  exact ⟨rfl, _, rfl, Below.refl _ _, rfl⟩
                · intro xs W hW hn
                  simp [flowNeeds, Region.binds] at hn
                  simp only [flowAct, zwc, zwn]
                  try simp only [hn]
                  go_wp2_with (fail)
                  exact ⟨rfl, _, rfl, Below.refl _ _, rfl⟩
                · intro xs W hW hn
                  simp [flowNeeds, Region.binds] at hn
                  simp only [flowAct, zwc, zwn]
                  try simp only [hn]
                  go_wp2_with (fail)
                  exact ⟨rfl, _, rfl, Below.refl _ _, rfl⟩
              · intro xs W hW hall
                simp only [flowAll, and_true, Nat.zero_add, Nat.reduceAdd] at hall
                obtain ⟨-,-,-,-,-,-,-,-,-,-,-,-,-,-,-,-,-, e17⟩ := hall
                simp only [flowAct, zwc, zwn]
                simp only [e17]
                go_wp2
                go_roundw
                case rel => exact ⟨0 + 1, by omega, by go_num, HAN.out, HB2.out.trans (hW.mono HB2.out.size)⟩
                case measure => simp [intOf]; omega
            · obtain ⟨j, rfl⟩ : ∃ j, k = j + 1 := ⟨k - 1, by omega⟩
              clear hk0
              obtain ⟨bk', off', eab, hat'⟩ := HPL.out j (by omega)
              injection eab with eab
              injection eab with e1 e2 e3
              subst e1 e2
              clear e3
              have hord := ord_geq (l.getD j Wr.zero) ⟨kx, ix, gx, vx⟩
              have HWA2 := Lib.hid (show wAt n1 l (j + 1) = aheadS (l.getD j Wr.zero) ⟨kx, ix, gx, vx⟩ by
                rw [HWA.out]
                simp)
              clear HWA
              obtain ⟨z, hz⟩ : ∃ z, l.getD j Wr.zero = z := ⟨_, rfl⟩
              rw [hz] at hat' hord HWA2
              obtain ⟨ky, iy, gy, vy⟩ := z
              simp only at hat'
              have HQW := Lib.hid (fun W (h : Below W6.heap.size W6 W) => hat' W (HB2.out.trans (h.mono HB2.out.size)))
              have hah := fun W => order_c ky iy gy vy kx ix gx vx W
              obtain ⟨AH, hAH⟩ : ∃ z, aheadS ⟨ky, iy, gy, vy⟩ ⟨kx, ix, gx, vx⟩ = z := ⟨_, rfl⟩
              obtain ⟨OR, hOR⟩ : ∃ z, ordS ⟨ky, iy, gy, vy⟩ ⟨kx, ix, gx, vx⟩ = z := ⟨_, rfl⟩
              rw [hAH] at hord HWA2
              rw [hOR] at hord
              simp only [hOR] at hah
              have HAH := Lib.hid hah
              have HGE := Lib.hid hord
              have hj0 : (0 : Int) < ((j + 1 : Nat) : Int) := by omega
              have hjn : (j : Int) < (m : Int) := by omega
              have hjc : (j : Int) < (cap2 : Int) := by omega
              clear hat' hz hah hAH hOR hord
              cases AH with
              | true =>
                have HAN := Lib.hid (show ∀ i, i < j + 1 + 1 → wAt n1 l i = true from fun i hi => by
                  by_cases h9 : i < j + 1
                  · exact HA.out i h9
                  · obtain rfl : i = j + 1 := by omega
                    exact HWA2.out)
                clear HWA2 HA
                refine wp_region_flow [none,none,none,none,none,none,none,none,none,none,none,none,none,none,none,none,none,none,none,none,none,none, some 0, some 1, some 2, some 3, some 4, some 5, some 6, some 7, some 8, some 9, some 10, some 11, some 12, some 13, some 14, some 15, some 16, some 17, none] (fun i => [u22, u23, u24, u25, u26, u27, u28, u29, u30, u31, u32, u33, u34, u35, u36, u37, u38, u39].getD i undef) [(fun v _ => v = .int .i64 (n1 : Int)), (fun v _ => v = .agg #[.string (text kx), .int .i64 ix, .bool gx, .string (text vx)]), (fun v _ => v = .bool true), (fun v _ => v = .bool false), (fun v _ => v = .bool false), (fun v _ => v = .int .i64 ((j + 1 : Nat) : Int)), (fun v _ => v = .bool true), (fun v _ => v = .bool true), (fun v _ => v = .slice (some ⟨bk, off, none⟩) m cap2), (fun v _ => v = .int .i64 ((j + 1 : Nat) : Int)), (fun v _ => v = .int .i64 (j : Int)), (fun v _ => v = .pointer (some ⟨bk, off + j * 4, none⟩)), (fun v _ => v = .agg #[.string (text ky), .int .i64 iy, .bool gy, .string (text vy)]), (fun v _ => v = .agg #[.string (text kx), .int .i64 ix, .bool gx, .string (text vx)]), (fun v _ => v = .int .i64 OR), (fun v _ => v = .bool (!true)), (fun v _ => v = .bool (!true)), (fun v _ => v = .bool (!true))] (by kernel_rfl) (by kernel_rfl) rfl rfl rfl ?_ ?_ ?_
                · intro g hg v X Y hX hY hv
                  simp only [List.mem_cons, List.not_mem_nil, or_false] at hg
                  rcases hg with rfl | rfl | rfl | rfl | rfl | rfl | rfl | rfl | rfl | rfl | rfl | rfl | rfl | rfl | rfl | rfl | rfl | rfl
                  all_goals first
                    | exact hv
                    | exact hv.kept hY
                · simp only [flowOps, and_true]
                  refine ⟨?_,?_,?_,?_,?_,?_,?_,?_,?_,?_,?_,?_,?_,?_,?_,?_,?_,?_⟩
                  · intro xs W hW hn
                    simp only [flowAct, zwc, zwn]
                    go_wp2_with (fail)
                    exact ⟨rfl, _, rfl, Below.refl _ _, rfl⟩
                  · intro xs W hW hn
                    obtain ⟨p0, p1, p2, p3⟩ := HPB.out W hW
                    simp only [flowAct, zwc, zwn]
                    go_wp2_with (fail)
                    exact ⟨rfl, _, rfl, Below.refl _ _, rfl⟩
                  · intro xs W hW hn
                    simp [flowNeeds, Region.binds] at hn
                    simp only [flowAct, zwc, zwn]
                    try simp only [hn]
                    go_wp2_with (go_at_call 34; (with_reducible refine (HWC.out _).mono ?_); rintro e9 w9 ⟨rfl, hb9⟩)
                    exact ⟨rfl, _, rfl, hb9, rfl⟩
                  · intro xs W hW hn
                    simp [flowNeeds, Region.binds] at hn
                    simp only [flowAct, zwc, zwn]
                    try simp only [hn]
                    go_wp2_with (fail)
                    exact ⟨rfl, _, rfl, Below.refl _ _, rfl⟩
                  · intro xs W hW hn
                    simp [flowNeeds, Region.binds] at hn
                    simp only [flowAct, zwc, zwn]
                    try simp only [hn]
                    go_wp2_with (fail)
                    exact ⟨rfl, _, rfl, Below.refl _ _, rfl⟩
                  · intro xs W hW hn
                    simp [flowNeeds, Region.binds] at hn
                    simp only [flowAct, zwc, zwn]
                    try simp only [hn]
                    go_wp2_with (fail)
                    exact ⟨rfl, _, rfl, Below.refl _ _, rfl⟩
                  · intro xs W hW hn
                    simp [flowNeeds, Region.binds] at hn
                    simp only [flowAct, zwc, zwn]
                    try simp only [hn]
                    go_wp2_with (fail)
                    exact ⟨rfl, _, rfl, Below.refl _ _, by first | rfl | go_num | (simp; done)⟩
                  · intro xs W hW hn
                    simp [flowNeeds, Region.binds] at hn
                    simp only [flowAct, zwc, zwn]
                    try simp only [hn]
                    go_wp2_with (fail)
                    exact ⟨rfl, _, rfl, Below.refl _ _, rfl⟩
                  · intro xs W hW hn
                    simp [flowNeeds, Region.binds] at hn
                    simp only [flowAct, zwc, zwn]
                    try simp only [hn]
                    go_wp2_with (fail)
                    exact ⟨rfl, _, rfl, Below.refl _ _, rfl⟩
                  · intro xs W hW hn
                    simp [flowNeeds, Region.binds] at hn
                    simp only [flowAct, zwc, zwn]
                    try simp only [hn]
                    go_wp2_with (fail)
                    exact ⟨rfl, _, rfl, Below.refl _ _, rfl⟩
                  · intro xs W hW hn
                    simp [flowNeeds, Region.binds] at hn
                    simp only [flowAct, zwc, zwn]
                    try simp only [hn]
                    go_wp2_with (fail)
                    exact ⟨rfl, _, rfl, Below.refl _ _, by first | rfl | go_num | (simp; done)⟩
                  · intro xs W hW hn
                    simp [flowNeeds, Region.binds] at hn
                    simp only [flowAct, zwc, zwn]
                    try simp only [hn]
                    go_wp2_with (fail)
                    exact ⟨rfl, _, rfl, Below.refl _ _, rfl⟩
                  · intro xs W hW hn
                    obtain ⟨y0, y1, y2, y3⟩ := HQW.out W hW
                    simp [flowNeeds, Region.binds] at hn
                    simp only [flowAct, zwc, zwn]
                    try simp only [hn]
                    go_wp2_with (fail)
                    exact ⟨rfl, _, rfl, Below.refl _ _, rfl⟩
                  · intro xs W hW hn
                    obtain ⟨p0, p1, p2, p3⟩ := HPB.out W hW
                    simp [flowNeeds, Region.binds] at hn
                    simp only [flowAct, zwc, zwn]
                    try simp only [hn]
                    go_wp2_with (fail)
                    exact ⟨rfl, _, rfl, Below.refl _ _, rfl⟩
                  · intro xs W hW hn
                    simp [flowNeeds, Region.binds] at hn
                    simp only [flowAct, zwc, zwn]
                    try simp only [hn]
                    go_wp2_with (go_at_call 17; (with_reducible refine (HAH.out _).mono ?_); rintro e9 w9 ⟨rfl, hb9⟩)
                    exact ⟨rfl, _, rfl, hb9, rfl⟩
                  · intro xs W hW hn
                    simp [flowNeeds, Region.binds] at hn
                    simp only [flowAct, zwc, zwn]
                    try simp only [hn]
                    go_wp2_with (fail)
                    exact ⟨rfl, _, rfl, Below.refl _ _, by first | exact congrArg Value.bool HGE.out | (have := HGE.out; simp at this ⊢; exact this)⟩
                  · intro xs W hW hn
                    simp [flowNeeds, Region.binds] at hn
                    simp only [flowAct, zwc, zwn]
                    try simp only [hn]
                    go_wp2_with (fail)
                    exact ⟨rfl, _, rfl, Below.refl _ _, rfl⟩
                  · intro xs W hW hn
                    simp [flowNeeds, Region.binds] at hn
                    simp only [flowAct, zwc, zwn]
                    try simp only [hn]
                    go_wp2_with (fail)
                    exact ⟨rfl, _, rfl, Below.refl _ _, rfl⟩
                · intro xs W hW hall
                  simp only [flowAll, and_true, Nat.zero_add, Nat.reduceAdd] at hall
                  obtain ⟨-,-,-,-,-,-,-,-,-,-,-,-,-,-,-,-,-, e17⟩ := hall
                  simp only [flowAct, zwc, zwn]
                  simp only [e17]
                  go_wp2
                  go_roundw
                  case rel => exact ⟨(j + 1) + 1, by omega, by go_num, HAN.out, HB2.out.trans (hW.mono HB2.out.size)⟩
                  case measure => simp [intOf]; omega
              | false =>
                have HRR := Lib.hid (H2.out (j + 1) hlt HWA2.out)
                clear HWA2 HA
                refine wp_region_flow [none,none,none,none,none,none,none,none,none,none,none,none,none,none,none,none,none,none,none,none,none,none, some 0, some 1, some 2, some 3, some 4, some 5, some 6, some 7, some 8, some 9, some 10, some 11, some 12, some 13, some 14, some 15, some 16, some 17, none] (fun i => [u22, u23, u24, u25, u26, u27, u28, u29, u30, u31, u32, u33, u34, u35, u36, u37, u38, u39].getD i undef) [(fun v _ => v = .int .i64 (n1 : Int)), (fun v _ => v = .agg #[.string (text kx), .int .i64 ix, .bool gx, .string (text vx)]), (fun v _ => v = .bool true), (fun v _ => v = .bool false), (fun v _ => v = .bool false), (fun v _ => v = .int .i64 ((j + 1 : Nat) : Int)), (fun v _ => v = .bool true), (fun v _ => v = .bool true), (fun v _ => v = .slice (some ⟨bk, off, none⟩) m cap2), (fun v _ => v = .int .i64 ((j + 1 : Nat) : Int)), (fun v _ => v = .int .i64 (j : Int)), (fun v _ => v = .pointer (some ⟨bk, off + j * 4, none⟩)), (fun v _ => v = .agg #[.string (text ky), .int .i64 iy, .bool gy, .string (text vy)]), (fun v _ => v = .agg #[.string (text kx), .int .i64 ix, .bool gx, .string (text vx)]), (fun v _ => v = .int .i64 OR), (fun v _ => v = .bool (!false)), (fun v _ => v = .bool (!false)), (fun v _ => v = .bool (!false))] (by kernel_rfl) (by kernel_rfl) rfl rfl rfl ?_ ?_ ?_
                · intro g hg v X Y hX hY hv
                  simp only [List.mem_cons, List.not_mem_nil, or_false] at hg
                  rcases hg with rfl | rfl | rfl | rfl | rfl | rfl | rfl | rfl | rfl | rfl | rfl | rfl | rfl | rfl | rfl | rfl | rfl | rfl
                  all_goals first
                    | exact hv
                    | exact hv.kept hY
                · simp only [flowOps, and_true]
                  refine ⟨?_,?_,?_,?_,?_,?_,?_,?_,?_,?_,?_,?_,?_,?_,?_,?_,?_,?_⟩
                  · intro xs W hW hn
                    simp only [flowAct, zwc, zwn]
                    go_wp2_with (fail)
                    exact ⟨rfl, _, rfl, Below.refl _ _, rfl⟩
                  · intro xs W hW hn
                    obtain ⟨p0, p1, p2, p3⟩ := HPB.out W hW
                    simp only [flowAct, zwc, zwn]
                    go_wp2_with (fail)
                    exact ⟨rfl, _, rfl, Below.refl _ _, rfl⟩
                  · intro xs W hW hn
                    simp [flowNeeds, Region.binds] at hn
                    simp only [flowAct, zwc, zwn]
                    try simp only [hn]
                    go_wp2_with (go_at_call 34; (with_reducible refine (HWC.out _).mono ?_); rintro e9 w9 ⟨rfl, hb9⟩)
                    exact ⟨rfl, _, rfl, hb9, rfl⟩
                  · intro xs W hW hn
                    simp [flowNeeds, Region.binds] at hn
                    simp only [flowAct, zwc, zwn]
                    try simp only [hn]
                    go_wp2_with (fail)
                    exact ⟨rfl, _, rfl, Below.refl _ _, rfl⟩
                  · intro xs W hW hn
                    simp [flowNeeds, Region.binds] at hn
                    simp only [flowAct, zwc, zwn]
                    try simp only [hn]
                    go_wp2_with (fail)
                    exact ⟨rfl, _, rfl, Below.refl _ _, rfl⟩
                  · intro xs W hW hn
                    simp [flowNeeds, Region.binds] at hn
                    simp only [flowAct, zwc, zwn]
                    try simp only [hn]
                    go_wp2_with (fail)
                    exact ⟨rfl, _, rfl, Below.refl _ _, rfl⟩
                  · intro xs W hW hn
                    simp [flowNeeds, Region.binds] at hn
                    simp only [flowAct, zwc, zwn]
                    try simp only [hn]
                    go_wp2_with (fail)
                    exact ⟨rfl, _, rfl, Below.refl _ _, by first | rfl | go_num | (simp; done)⟩
                  · intro xs W hW hn
                    simp [flowNeeds, Region.binds] at hn
                    simp only [flowAct, zwc, zwn]
                    try simp only [hn]
                    go_wp2_with (fail)
                    exact ⟨rfl, _, rfl, Below.refl _ _, rfl⟩
                  · intro xs W hW hn
                    simp [flowNeeds, Region.binds] at hn
                    simp only [flowAct, zwc, zwn]
                    try simp only [hn]
                    go_wp2_with (fail)
                    exact ⟨rfl, _, rfl, Below.refl _ _, rfl⟩
                  · intro xs W hW hn
                    simp [flowNeeds, Region.binds] at hn
                    simp only [flowAct, zwc, zwn]
                    try simp only [hn]
                    go_wp2_with (fail)
                    exact ⟨rfl, _, rfl, Below.refl _ _, rfl⟩
                  · intro xs W hW hn
                    simp [flowNeeds, Region.binds] at hn
                    simp only [flowAct, zwc, zwn]
                    try simp only [hn]
                    go_wp2_with (fail)
                    exact ⟨rfl, _, rfl, Below.refl _ _, by first | rfl | go_num | (simp; done)⟩
                  · intro xs W hW hn
                    simp [flowNeeds, Region.binds] at hn
                    simp only [flowAct, zwc, zwn]
                    try simp only [hn]
                    go_wp2_with (fail)
                    exact ⟨rfl, _, rfl, Below.refl _ _, rfl⟩
                  · intro xs W hW hn
                    obtain ⟨y0, y1, y2, y3⟩ := HQW.out W hW
                    simp [flowNeeds, Region.binds] at hn
                    simp only [flowAct, zwc, zwn]
                    try simp only [hn]
                    go_wp2_with (fail)
                    exact ⟨rfl, _, rfl, Below.refl _ _, rfl⟩
                  · intro xs W hW hn
                    obtain ⟨p0, p1, p2, p3⟩ := HPB.out W hW
                    simp [flowNeeds, Region.binds] at hn
                    simp only [flowAct, zwc, zwn]
                    try simp only [hn]
                    go_wp2_with (fail)
                    exact ⟨rfl, _, rfl, Below.refl _ _, rfl⟩
                  · intro xs W hW hn
                    simp [flowNeeds, Region.binds] at hn
                    simp only [flowAct, zwc, zwn]
                    try simp only [hn]
                    go_wp2_with (go_at_call 17; (with_reducible refine (HAH.out _).mono ?_); rintro e9 w9 ⟨rfl, hb9⟩)
                    exact ⟨rfl, _, rfl, hb9, rfl⟩
                  · intro xs W hW hn
                    simp [flowNeeds, Region.binds] at hn
                    simp only [flowAct, zwc, zwn]
                    try simp only [hn]
                    go_wp2_with (fail)
                    exact ⟨rfl, _, rfl, Below.refl _ _, by first | exact congrArg Value.bool HGE.out | (have := HGE.out; simp at this ⊢; exact this)⟩
                  · intro xs W hW hn
                    simp [flowNeeds, Region.binds] at hn
                    simp only [flowAct, zwc, zwn]
                    try simp only [hn]
                    go_wp2_with (fail)
                    exact ⟨rfl, _, rfl, Below.refl _ _, rfl⟩
                  · intro xs W hW hn
                    simp [flowNeeds, Region.binds] at hn
                    simp only [flowAct, zwc, zwn]
                    try simp only [hn]
                    go_wp2_with (fail)
                    exact ⟨rfl, _, rfl, Below.refl _ _, rfl⟩
                · intro xs W hW hall
                  simp only [flowAll, and_true, Nat.zero_add, Nat.reduceAdd] at hall
                  obtain ⟨-,-,-,-,-,-,-,-,-,-,-,-,-,-,-,-,-, e17⟩ := hall
                  simp only [flowAct, zwc, zwn]
                  simp only [e17]
                  go_wp2
                  go_ret
                  exact ⟨by rw [HRR.out]; rfl, HB2.out.trans (hW.mono HB2.out.size)⟩
        · obtain rfl : m = k := by omega
          have HRR := Lib.hid (H3b.out HA.out)
          clear H2 H3b
          go_wp2
          go_ret
          exact ⟨by rw [HRR.out]; rfl, HBr.out⟩
set_option maxHeartbeats 3200000 in
theorem chgood_c {w : World} {x x2 : Option Addr} {n1 cap m cap2 : Nat} {gs : List Grp} {l : List Wr} (hg : Grs w x n1 cap gs) (hs : ∀ g ∈ gs, g.1.length ≤ 9223372036854775807) (hl : Wrs w x2 m cap2 l) (hx : WShort l) (site seq n s a b : Int) :
    Calls Tryd.prog 11 #[.slice x n1 cap, .agg #[.int .i64 site, .int .i64 seq, .int .i64 n, .int .i64 s, .int .i64 a, .int .i64 b, .slice x2 m cap2]] w (Tells (.int .i64 (chgoodS gs site seq n s a b l)) w) := by
  have hgl := hg.len
  have HPG := Lib.hid (fun W (h : Below w.heap.size w W) => pgood_c (hg.below h) hs)
  have HGH := Lib.hid (fun W => goodhead_c site seq n s a b x2 m cap2 W)
  have HGW := Lib.hid (fun W (h : Below w.heap.size w W) => goodwrites_c n1 (hl.below h) hx)
  have HV := Lib.hid (chgood_eq gs site seq n s a b l)
  rw [hgl] at HV
  obtain ⟨R, hR⟩ : ∃ z, chgoodS gs site seq n s a b l = z := ⟨_, rfl⟩
  obtain ⟨P0, hP⟩ : ∃ z, pgoodS gs = z := ⟨_, rfl⟩
  obtain ⟨GH, hGH⟩ : ∃ z, goodHeadS site seq n s a b = z := ⟨_, rfl⟩
  obtain ⟨GW, hGW⟩ : ∃ z, gwsS n1 l = z := ⟨_, rfl⟩
  rw [hR, hP, hGH, hGW] at HV
  simp only [hP] at HPG
  simp only [hGH] at HGH
  simp only [hGW] at HGW
  rw [hR]
  have HB1 := Lib.hid (alloc_below w (.cells #[.int .i64 site, .int .i64 seq, .int .i64 n, .int .i64 s, .int .i64 a, .int .i64 b, .slice x2 m cap2] 39))
  have hr := heap_alloc_new w (.cells #[.int .i64 site, .int .i64 seq, .int .i64 n, .int .i64 s, .int .i64 a, .int .i64 b, .slice x2 m cap2] 39)
  have HC0 := Lib.hid (fun W (h : Below (w.alloc (.cells #[.int .i64 site, .int .i64 seq, .int .i64 n, .int .i64 s, .int .i64 a, .int .i64 b, .slice x2 m cap2] 39)).heap.size (w.alloc (.cells #[.int .i64 site, .int .i64 seq, .int .i64 n, .int .i64 s, .int .i64 a, .int .i64 b, .slice x2 m cap2] 39)) W) => ch_cells (heap_below hr h))
  clear hR hP hGH hGW hg hs hl hx hr
  by_cases h0 : P0 = 0
  · subst h0
    go_enter Tryd.func11, Tryd.ntmps11
    go_upto_region 4 with (go_at_call 19; (with_reducible refine (HPG.out _ HB1.out).mono ?_); rintro e9 w2 ⟨rfl, hb2⟩)
    have HB2 := Lib.hid (HB1.out.trans (hb2.mono HB1.out.size))
    obtain ⟨c0, c1, c2, c3, c4, c5, c6⟩ := HC0.out _ hb2
    have HC2 := Lib.hid (fun W (h : Below w2.heap.size w2 W) => HC0.out W (hb2.trans (h.mono hb2.size)))
    clear hb2 HC0 HB1
    cases GH with
    | false =>
      have HRR := Lib.hid (show R = 120 by rw [HV.out]; rfl)
      clear HV
      go_wp2_with (go_at_call 20; (with_reducible refine (HGH.out _).mono ?_); rintro e9 w3 ⟨rfl, hb3⟩)
      go_ret
      exact ⟨by rw [HRR.out]; rfl, HB2.out.trans (hb3.mono HB2.out.size)⟩
    | true =>
      cases GW with
      | false =>
        have HRR := Lib.hid (show R = 120 by rw [HV.out]; rfl)
        clear HV
        go_wp2_with (first | (go_at_call 20; (with_reducible refine (HGH.out _).mono ?_); rintro e9 w3 ⟨rfl, hb3⟩; obtain ⟨d0, d1, d2, d3, d4, d5, d6⟩ := HC2.out _ hb3; have HB3 := Lib.hid (HB2.out.trans (hb3.mono HB2.out.size)); clear hb3) | (go_at_call 21; (with_reducible refine (HGW.out _ HB3.out).mono ?_); rintro e9 w4 ⟨rfl, hb4⟩))
        go_ret
        exact ⟨by rw [HRR.out]; rfl, HB3.out.trans (hb4.mono HB3.out.size)⟩
      | true =>
        have HRR := Lib.hid (show R = 0 by rw [HV.out]; rfl)
        clear HV
        go_wp2_with (first | (go_at_call 20; (with_reducible refine (HGH.out _).mono ?_); rintro e9 w3 ⟨rfl, hb3⟩; obtain ⟨d0, d1, d2, d3, d4, d5, d6⟩ := HC2.out _ hb3; have HB3 := Lib.hid (HB2.out.trans (hb3.mono HB2.out.size)); clear hb3) | (go_at_call 21; (with_reducible refine (HGW.out _ HB3.out).mono ?_); rintro e9 w4 ⟨rfl, hb4⟩))
        go_ret
        exact ⟨by rw [HRR.out]; rfl, HB3.out.trans (hb4.mono HB3.out.size)⟩
  · have HRR := Lib.hid (show R = P0 by rw [HV.out, if_pos h0])
    have h0n : (P0 != 0) = true := by simpa using h0
    clear HV
    go_enter Tryd.func11, Tryd.ntmps11
    go_wp2_with (go_at_call 19; (with_reducible refine (HPG.out _ HB1.out).mono ?_); rintro e9 w2 ⟨rfl, hb2⟩)
    go_ret
    exact ⟨by rw [HRR.out]; rfl, HB1.out.trans (hb2.mono HB1.out.size)⟩
end Go.Proofs.YtjkifdjjcfempaaDoor
end

