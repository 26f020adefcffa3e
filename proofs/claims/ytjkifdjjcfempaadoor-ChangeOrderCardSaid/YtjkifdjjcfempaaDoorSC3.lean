/-
  Merged: E5 E7 EA G3 G9 EC ED EE EF EB H5 I1 I2 I3 H1 Tb.
-/
import Derived.Deep.QuietTactic
import Derived.StillTail
import Derived.Lib.QuietBelow
import Derived.Test.YtjkifdjjcfempaaDoorRows
import Derived.WalkKit
import Derived.Lib.Hide
import Derived.BigQuiet
import Derived.BigRegion
import Derived.Deep.Cut
import Derived.Deep.MidRow
import Derived.Great.BuildSlice
import Derived.Outline
import Derived.OwnWalk
import Derived.Laws.Rows
import Derived.ChangeKeysEq
import Derived.Laws.StructEq
import Derived.WalkSpells
import Derived.WalkLawsBesides
import Derived.Laws.CopyOwn
import Derived.WalkSmall
import Derived.Lib.LaidTab
import Derived.Deep.RegionWith
import Derived.Lib.MinMax
import Derived.WideShapes
import Derived.ChangeSame
import Derived.OpenShut
import Derived.Deep.Slices
import Derived.Deep.AppendSrc
import Derived.Lib.AppendZerosOnto
import Derived.Lib.SliceRun
import Derived.Lib.Walk
import Derived.Lib.OthersKept
import Derived.Laws.RangeAny
import Derived.Maps.OwnOps
import Derived.Maps.Views
import Derived.ChangeSlices
import Derived.ChangeArms
import Derived.OrdersIn
import Derived.TacticsIn
import Derived.RangeFuncNested
import Derived.RangeFuncBound
import Derived.RangeFuncCalls
import Derived.RangeFuncLeaves
import Derived.Deep.DeepAppendWide
import Derived.Maps.AppendAt
import Derived.Shelf.Abstract
import Derived.OwnWalkIn
import Derived.TacticsInMore
import Derived.LoopNIn
import Derived.LoopIn
import Derived.DeepKeys4
import Derived.Maps.Own
import Derived.Maps.Range
import Derived.Sort.Grow
import Derived.Shelf.SlSortCmp.WholeK
import Derived.Stop.LaidErr
import Derived.Test.YtjkifdjjcfempaaDoorSC2

section
namespace Go.Proofs.YtjkifdjjcfempaaDoor
open Go.RowKit Go Go.Sort
set_option linter.unusedVariables false
set_option maxRecDepth 20000

theorem own_bys {W : World} {B : Nat} {a : Option Addr} {m c : Nat} {l : List UInt8} (h : OwnB W B 5 (.slice a m c) l) : Bys W a m c l := by
  obtain ⟨a', c', ev, hc⟩ := h.bys
  injection ev with e1 e2 e3
  subst e1 e2 e3
  exact hc
/-- A change's bytes behind others: its head, and its writes one behind the other. -/
def cheadB (l : List UInt8) (site seq n s a b : Int) (m : Nat) : List UInt8 := vputS (sputS (l ++ numB site ++ numB seq) n s) a b ++ numB (m : Int)
def wputS (l : List UInt8) (c : Wr) : List UInt8 := if c.g = true then putTextS l c.k ++ numB c.i ++ numB 1 else putTextS (putTextS l c.k ++ numB c.i ++ numB 0) c.v
def wputN (l : List UInt8) (ws : List Wr) : Nat → List UInt8
  | 0 => l
  | k + 1 => wputS (wputN l ws k) (ws.getD k Wr.zero)
def chputS (l : List UInt8) (gs : List Grp) (site seq n s a b : Int) (ws : List Wr) : List UInt8 := if chgoodS gs site seq n s a b ws = 0 then wputN (cheadB l site seq n s a b ws.length) ws ws.length else l
theorem head_ok {site seq n s a b : Int} {m : Nat} (h : headBad site seq n s a b m = false) : (site = 1 ∨ site = 2) ∧ 1 ≤ seq ∧ seq ≤ 1099511627776 ∧ sgood n s = true ∧ s = site ∧ vgood a b = true ∧ (if site = 1 then a else b) = seq ∧ 1 ≤ m ∧ m ≤ 8 := by
  unfold headBad at h
  simp only [Bool.or_eq_false_iff, Bool.and_eq_false_iff, Bool.not_eq_false', bne_eq_false_iff_eq, decide_eq_false_iff_not] at h
  obtain ⟨⟨⟨⟨⟨⟨⟨⟨h1, h2⟩, h3⟩, h4⟩, h5⟩, h6⟩, h7⟩, h8⟩, h9⟩ := h
  exact ⟨h1, by omega, by omega, h4, h5, h6, h7, by omega, by omega⟩
theorem may_few {n : Nat} {c : Wr} (h : mayS n c = true) : c.k.length ≤ 32 ∧ 1 ≤ c.k.length ∧ 0 ≤ c.i ∧ c.i < (n : Int) ∧ c.v.length ≤ 64 ∧ (c.g = true → c.v = []) := by
  unfold mayS at h
  simp only [Bool.and_eq_true, decide_eq_true_eq] at h
  obtain ⟨h1, h2, h3, h4, h5⟩ := h
  have hk : ¬ c.k = [] ∧ c.k.length ≤ 32 := by
    unfold keyS at h1
    split at h1
    · cases h1
    · split at h1
      · cases h1
      · rename_i h6 h7; exact ⟨h6, by omega⟩
  refine ⟨hk.2, ?_, h2, h3, h4, fun hg => ?_⟩
  · rcases Nat.eq_zero_or_pos c.k.length with h | h
    · exact absurd (List.eq_nil_of_length_eq_zero h) hk.1
    · exact h
  · rw [hg] at h5
    simpa using h5
theorem w_at {n1 : Nat} {l : List Wr} {k : Nat} (h : wAt n1 l k = true) : mayS n1 (l.getD k Wr.zero) = true := by
  unfold wAt at h
  rw [Bool.and_eq_true] at h
  exact h.1
theorem chead_le (l : List UInt8) (site seq n s a b : Int) (m : Nat) : (cheadB l site seq n s a b m).length ≤ l.length + 48 := by
  have h1 := numB_length site
  have h2 := numB_length seq
  have h3 := sput_le (l ++ numB site ++ numB seq) n s
  have h4 := vput_le (sputS (l ++ numB site ++ numB seq) n s) a b
  have h5 := numB_length (m : Int)
  unfold cheadB
  simp only [List.length_append] at *
  omega
theorem wput_le {n : Nat} {c : Wr} (l : List UInt8) (h : mayS n c = true) : (wputS l c).length ≤ l.length + 128 := by
  have hf := may_few h
  have h1 := putText_le l c.k
  have h2 := numB_length c.i
  have h3 := numB_length 1
  have h4 := numB_length 0
  have h5 := putText_le (putTextS l c.k ++ numB c.i ++ numB 0) c.v
  unfold wputS
  split
  · simp only [List.length_append]; omega
  · simp only [List.length_append] at h5 ⊢; omega

end Go.Proofs.YtjkifdjjcfempaaDoor
end

section
namespace Go.Proofs.YtjkifdjjcfempaaDoor
open Go.RowKit Go Go.Sort
set_option linter.unusedVariables false
set_option maxRecDepth 20000

theorem pair_cells {W : World} {q : Nat} {x y : Value} {t : TypeId} (h : W.heap[q]? = some (.cells #[x, y] t (0, 0))) : W.cell? ⟨q, 0, none⟩ = some x ∧ W.cell? ⟨q, 1, none⟩ = some y := by
  refine ⟨?_,?_⟩ <;> (rw [cell_of_row _ q _ _ _ (0, 0) h]; rfl)
section
variable {l : List UInt8} {q1 q2 q3 q4 q5 : Nat} {site seq n s a b m9 k f : Int}
end
end Go.Proofs.YtjkifdjjcfempaaDoor
end

section
namespace Go.Proofs.YtjkifdjjcfempaaDoor
open Go.RowKit Go Go.Sort
set_option linter.unusedVariables false
set_option maxRecDepth 20000

theorem putText_nil (l t : List UInt8) : putTextS l t = l ++ putTextS [] t := by have := putText_app l [] t; simpa using this
theorem wput_one (k : List UInt8) (i : Int) (g : Bool) (v : List UInt8) : wputS [] ⟨k, i, g, v⟩ = putTextS [] k ++ (numB i ++ (if g = true then numB 1 else numB 0 ++ putTextS [] v)) := by
  unfold wputS
  cases g with
  | true => simp
  | false =>
    simp only [Bool.false_eq_true, if_false]
    rw [putText_nil (putTextS [] k ++ numB i ++ numB 0) v]
    simp
theorem wput_nil (l : List UInt8) (c : Wr) : wputS l c = l ++ wputS [] c := by
  obtain ⟨k, i, g, v⟩ := c
  rw [wput_one]
  unfold wputS
  cases g with
  | true =>
    simp only [if_true]
    rw [putText_nil l k]
    simp
  | false =>
    simp only [Bool.false_eq_true, if_false]
    rw [putText_nil (putTextS l k ++ numB i ++ numB 0) v, putText_nil l k]
    simp
theorem wputN_nil (l : List UInt8) (ws : List Wr) : ∀ k, wputN l ws k = l ++ wputN [] ws k
  | 0 => by simp [wputN]
  | k + 1 => by
    show wputS (wputN l ws k) _ = l ++ wputS (wputN [] ws k) _
    rw [wput_nil, wputN_nil l ws k, wput_nil (wputN [] ws k), List.append_assoc]
end Go.Proofs.YtjkifdjjcfempaaDoor
end

section
namespace Go.Proofs.YtjkifdjjcfempaaDoor
open Go.RowKit Go Go.Sort
set_option linter.unusedVariables false
set_option maxRecDepth 20000

theorem bys_nil (W : World) : Bys W none 0 0 [] := own_bys (World.ownsRow_nil _ _ _ _ : OwnB W 0 5 (.slice none 0 0) [])
set_option maxRecDepth 100000 in
set_option maxHeartbeats 12800000 in
theorem chlay_c {w : World} {x2 : Option Addr} {m cap2 : Nat} {l : List Wr} (n1 : Nat) (hl : Wrs w x2 m cap2 l) (hm8 : m ≤ 8) (hall : ∀ k, k < m → mayS n1 (l.getD k Wr.zero) = true) (hn4 : n1 ≤ 4) (hT : TabW w) (site seq n s a b : Int) (hst : 1 ≤ site ∧ site ≤ 2) (hd2 : 1 ≤ seq) (hd3 : seq ≤ 1099511627776) :
    Calls Tryd.prog 22 #[.agg #[.int .i64 site, .int .i64 seq, .int .i64 n, .int .i64 s, .int .i64 a, .int .i64 b, .slice x2 m cap2]] w (BytesPost (wputN (cheadB [] site seq n s a b m) l m) w) := by
  have hle2 := hl.le
  have hmax2 := hl.max
  have HALL := Lib.hid hall
  have HHE := Lib.hid (show cheadB [] site seq n s a b m = vputS (sputS ([] ++ numB site ++ numB seq) n s) a b ++ numB (m : Int) from rfl)
  have HHL := Lib.hid (chead_le [] site seq n s a b m)
  have HL := Lib.hid hl
  have HT := Lib.hid hT
  obtain ⟨HE, hHE⟩ : ∃ z, cheadB [] site seq n s a b m = z := ⟨_, rfl⟩
  rw [hHE] at HHE HHL ⊢
  have hr := heap_alloc_new w (.cells #[.int .i64 site, .int .i64 seq, .int .i64 n, .int .i64 s, .int .i64 a, .int .i64 b, .slice x2 m cap2] 39)
  have hb := alloc_below w (.cells #[.int .i64 site, .int .i64 seq, .int .i64 n, .int .i64 s, .int .i64 a, .int .i64 b, .slice x2 m cap2] 39)
  clear hHE hl hT hall
  go_enter Tryd.func22, Tryd.ntmps22
  go_upto_region 1 with (fail)
  obtain ⟨B, hB⟩ : ∃ q, w.heap.size = q := ⟨_, rfl⟩
  have HBe := Lib.hid hB
  rw [hB] at hr ⊢
  clear hB
  generalize w.alloc (.cells #[.int .i64 site, .int .i64 seq, .int .i64 n, .int .i64 s, .int .i64 a, .int .i64 b, .slice x2 m cap2] 39) = W1 at *
  have HR1 := Lib.hid hr
  have HB1 := Lib.hid hb
  clear hr hb
  obtain ⟨l1, hl1⟩ : ∃ z, [] ++ numB site = z := ⟨_, rfl⟩
  obtain ⟨l2, hl2⟩ : ∃ z, l1 ++ numB seq = z := ⟨_, rfl⟩
  obtain ⟨l3, hl3⟩ : ∃ z, sputS l2 n s = z := ⟨_, rfl⟩
  obtain ⟨l4, hl4⟩ : ∃ z, vputS l3 a b = z := ⟨_, rfl⟩
  have hhe := HHE.out
  rw [hl1, hl2, hl3, hl4] at hhe
  have g1 : l1.length ≤ 8 := by have := numB_length site; rw [← hl1, List.length_append]; simp; omega
  have g2 : l2.length ≤ 16 := by have := numB_length seq; rw [← hl2, List.length_append]; omega
  have g3 : l3.length ≤ 24 := by have := sput_le l2 n s; rw [← hl3]; omega
  have g4 : l4.length ≤ 40 := by have := vput_le l3 a b; rw [← hl4]; omega
  have hP1 := fun W (hT : TabW W) => put_c (bys_nil W) (by omega) site (by omega) (by omega) hT
  have HP2 := Lib.hid (fun (W : World) (a2 : Option Addr) (k2 : Nat) (hh : Bys W a2 l1.length k2 l1) (hT : TabW W) => show Calls _ _ _ _ (BytesPost l2 W) by rw [← hl2]; exact put_c hh (by omega) seq (by omega) (by omega) hT)
  have HP3 := Lib.hid (fun (W : World) (a2 : Option Addr) (k2 : Nat) (hh : Bys W a2 l2.length k2 l2) (hT : TabW W) => show Calls _ _ _ _ (BytesPost l3 W) by rw [← hl3]; exact sput_c hh (by omega) hT n s)
  have HP4 := Lib.hid (fun (W : World) (a2 : Option Addr) (k2 : Nat) (hh : Bys W a2 l3.length k2 l3) (hT : TabW W) => show Calls _ _ _ _ (BytesPost l4 W) by rw [← hl4]; exact vput_c hh (by omega) hT a b)
  have HP5 := Lib.hid (fun (W : World) (a2 : Option Addr) (k2 : Nat) (hh : Bys W a2 l4.length k2 l4) (hT : TabW W) => show Calls _ _ _ _ (BytesPost HE W) by rw [hhe]; exact put_c hh (by omega) (m : Int) (by omega) (by omega) hT)
  simp only [hl1] at hP1
  have HP1 := Lib.hid hP1
  have HCW := Lib.hid (fun W (h : Below W1.heap.size W1 W) => ch_cells (heap_below HR1.out h))
  have HBs := Lib.hid HB1.out.size
  have HTW := Lib.hid (fun W (h : Below W1.heap.size W1 W) => HT.out.below (HB1.out.trans (h.mono HB1.out.size)))
  clear hP1 hl1 hl2 hl3 hl4 hhe g1 g2 g3 g4
  refine wp_region_flow_tail 6 [none,none,none,none,none,none, some 0, some 1, some 2, some 3, some 4, some 5, none,none,none,none,none,none,none,none,none,none,none,none,none,none,none,none,none,none,none,none,none,none,none,none,none,none,none,none,none,none,none,none,none,none,none,none,none] (fun i => [undef,undef,undef,undef,undef,undef].getD i undef) [(fun v _ => v = .pointer (some ⟨B, 0, none⟩)), (fun v _ => v = .int .i64 site), (fun v W => OwnB W w.heap.size 5 v l1), (fun v _ => v = .pointer (some ⟨B, 1, none⟩)), (fun v _ => v = .int .i64 seq), (fun v W => OwnB W w.heap.size 5 v l2)] (fun _ => False) (by kernel_rfl) (by kernel_rfl) (by kernel_rfl) rfl rfl rfl ?_ ?_ ?_
  · intro g hg v X Y hX hY hv
    simp only [List.mem_cons, List.not_mem_nil, or_false] at hg
    rcases hg with rfl | rfl | rfl | rfl | rfl | rfl
    all_goals first
      | exact hv
      | exact hv.kept hY
  · simp only [flowOpsF, List.take_succ_cons, List.take_zero, and_true]
    refine ⟨?_,?_,?_,?_,?_,?_⟩
    · intro xs W hW hn
      simp only [flowAct, zwc, zwn]
      go_wp2_with (fail)
      exact ⟨rfl, _, rfl, Below.refl _ _, rfl, fun h => h.elim⟩
    · intro xs W hW hn
      obtain ⟨c0, c1, c2, c3, c4, c5, c6⟩ := HCW.out W hW
      simp [flowNeeds, Region.binds] at hn
      simp only [flowAct, zwc, zwn]
      try simp only [hn]
      go_wp2_with (fail)
      exact ⟨rfl, _, rfl, Below.refl _ _, rfl, fun h => h.elim⟩
    · intro xs W hW hn
      simp [flowNeeds, Region.binds] at hn
      simp only [flowAct, zwc, zwn]
      simp only [hn]
      go_wp2_with (go_at_call 35; (with_reducible refine (HP1.out _ (HTW.out W hW)).mono ?_); rintro e9 w9 ⟨v9, rfl, ho9, hb9⟩)
      exact ⟨rfl, _, rfl, hb9, ho9.mono (Nat.le_trans HBs.out hW.size), fun h => h.elim⟩
    · intro xs W hW hn
      simp only [flowAct, zwc, zwn]
      go_wp2_with (fail)
      exact ⟨rfl, _, rfl, Below.refl _ _, rfl, fun h => h.elim⟩
    · intro xs W hW hn
      obtain ⟨c0, c1, c2, c3, c4, c5, c6⟩ := HCW.out W hW
      simp [flowNeeds, Region.binds] at hn
      simp only [flowAct, zwc, zwn]
      try simp only [hn]
      go_wp2_with (fail)
      exact ⟨rfl, _, rfl, Below.refl _ _, rfl, fun h => h.elim⟩
    · intro xs W hW hn
      simp [flowNeeds, Region.binds] at hn
      obtain ⟨ho3, e5⟩ := hn
      obtain ⟨a2, k2, e3, hy3⟩ := ho3.bys
      simp only [flowAct, zwc, zwn]
      simp only [e3, e5]
      go_wp2_with (go_at_call 35; (with_reducible refine (HP2.out _ _ _ hy3 (HTW.out W hW)).mono ?_); rintro e9 w9 ⟨v9, rfl, ho9, hb9⟩)
      exact ⟨rfl, _, rfl, hb9, ho9.mono (Nat.le_trans HBs.out hW.size), fun h => h.elim⟩
  · intro xs W hW hall hfr
    clear hfr
    simp only [flowAll, and_true, Nat.zero_add, Nat.reduceAdd] at hall
    obtain ⟨-,-,-,-,-, e6⟩ := hall
    simp only [flowAct, zwc, zwn, List.drop_succ_cons, List.drop_zero]
    obtain ⟨a2, k2, e3, -⟩ := e6.bys
    have O3 := Lib.hid e6
    rw [e3] at O3
    simp only [e3]
    clear e6 e3 HP1 HP2
    have HB3 := Lib.hid (HB1.out.trans (hW.mono HB1.out.size))
    have HR3 := Lib.hid (heap_below HR1.out hW)
    clear hW HB1 HR1 HCW HBs HTW
    obtain ⟨W3, hW3⟩ : ∃ X, W = X := ⟨_, rfl⟩
    rw [hW3] at HB3 HR3 O3 ⊢
    clear hW3
    have HCW := Lib.hid (fun W (h : Below W3.heap.size W3 W) => ch_cells (heap_below HR3.out h))
    have HBs := Lib.hid HB3.out.size
    have HTW := Lib.hid (fun W (h : Below W3.heap.size W3 W) => HT.out.below (HB3.out.trans (h.mono HB3.out.size)))
    have HYB := Lib.hid (fun W (h : Below W3.heap.size W3 W) => show Bys W a2 l2.length k2 l2 from (own_bys O3.out).below h)
    go_upto_region 2 with (fail)
    refine wp_region_flow_tail 7 [none,none,none,none,none,none,none,none,none,none,none,none, some 0, some 1, some 2, some 3, some 4, some 5, some 6, none,none,none,none,none,none,none,none,none,none,none,none,none,none,none,none,none,none,none,none,none,none,none,none,none,none,none,none,none,none] (fun i => [undef,undef,undef,undef,undef,undef,undef].getD i undef) [(fun v _ => v = .slice a2 l2.length k2), (fun v _ => v = .pointer (some ⟨B, 2, none⟩)), (fun v _ => v = .agg #[.int .i64 n, .int .i64 s]), (fun v W => OwnB W w.heap.size 5 v l3), (fun v _ => v = .pointer (some ⟨B, 4, none⟩)), (fun v _ => v = .agg #[.int .i64 a, .int .i64 b]), (fun v W => OwnB W w.heap.size 5 v l4)] (fun _ => False) (by kernel_rfl) (by kernel_rfl) (by kernel_rfl) rfl rfl rfl ?_ ?_ ?_
    · intro g hg v X Y hX hY hv
      simp only [List.mem_cons, List.not_mem_nil, or_false] at hg
      rcases hg with rfl | rfl | rfl | rfl | rfl | rfl | rfl
      all_goals first
        | exact hv
        | exact hv.kept hY
    · simp only [flowOpsF, List.take_succ_cons, List.take_zero, and_true]
      refine ⟨?_,?_,?_,?_,?_,?_,?_⟩
      · intro xs W hW hn
        simp only [flowAct, zwc, zwn]
        go_wp2_with (fail)
        exact ⟨rfl, _, rfl, Below.refl _ _, rfl, fun h => h.elim⟩
      · intro xs W hW hn
        simp only [flowAct, zwc, zwn]
        go_wp2_with (fail)
        exact ⟨rfl, _, rfl, Below.refl _ _, rfl, fun h => h.elim⟩
      · intro xs W hW hn
        obtain ⟨c0, c1, c2, c3, c4, c5, c6⟩ := HCW.out W hW
        simp [flowNeeds, Region.binds] at hn
        simp only [flowAct, zwc, zwn]
        try simp only [hn]
        go_wp2_with (fail)
        exact ⟨rfl, _, rfl, Below.refl _ _, rfl, fun h => h.elim⟩
      · intro xs W hW hn
        simp [flowNeeds, Region.binds] at hn
        simp only [flowAct, zwc, zwn]
        simp only [hn]
        go_wp2_with (go_at_call 37; (with_reducible refine (HP3.out _ _ _ (HYB.out W hW) (HTW.out W hW)).mono ?_); rintro e9 w9 ⟨v9, rfl, ho9, hb9⟩)
        exact ⟨rfl, _, rfl, hb9, ho9.mono (Nat.le_trans HBs.out hW.size), fun h => h.elim⟩
      · intro xs W hW hn
        simp only [flowAct, zwc, zwn]
        go_wp2_with (fail)
        exact ⟨rfl, _, rfl, Below.refl _ _, rfl, fun h => h.elim⟩
      · intro xs W hW hn
        obtain ⟨c0, c1, c2, c3, c4, c5, c6⟩ := HCW.out W hW
        simp [flowNeeds, Region.binds] at hn
        simp only [flowAct, zwc, zwn]
        try simp only [hn]
        go_wp2_with (fail)
        exact ⟨rfl, _, rfl, Below.refl _ _, rfl, fun h => h.elim⟩
      · intro xs W hW hn
        simp [flowNeeds, Region.binds] at hn
        obtain ⟨ho3, e5⟩ := hn
        obtain ⟨a2, k2, e3, hy3⟩ := ho3.bys
        simp only [flowAct, zwc, zwn]
        simp only [e3, e5]
        go_wp2_with (go_at_call 36; (with_reducible refine (HP4.out _ _ _ hy3 (HTW.out W hW)).mono ?_); rintro e9 w9 ⟨v9, rfl, ho9, hb9⟩)
        exact ⟨rfl, _, rfl, hb9, ho9.mono (Nat.le_trans HBs.out hW.size), fun h => h.elim⟩
    · intro xs W hW hall hfr
      clear hfr
      simp only [flowAll, and_true, Nat.zero_add, Nat.reduceAdd] at hall
      obtain ⟨-,-,-,-,-,-, e6⟩ := hall
      simp only [flowAct, zwc, zwn, List.drop_succ_cons, List.drop_zero]
      obtain ⟨a4, k4, e3, -⟩ := e6.bys
      have O4 := Lib.hid e6
      rw [e3] at O4
      simp only [e3]
      clear e6 e3 HP3 HP4 HYB O3
      have HB4 := Lib.hid (HB3.out.trans (hW.mono HB3.out.size))
      have HR4 := Lib.hid (heap_below HR3.out hW)
      clear hW HB3 HR3 HCW HBs HTW
      obtain ⟨W4, hW4⟩ : ∃ X, W = X := ⟨_, rfl⟩
      rw [hW4] at HB4 HR4 O4 ⊢
      clear hW4
      obtain ⟨c0, c1, c2, c3, c4, c5, c6⟩ := ch_cells HR4.out
      have HT4 := Lib.hid (HT.out.below HB4.out)
      go_upto_region 4 with (go_at_call 35; (with_reducible refine (HP5.out _ _ _ (own_bys O4.out) HT4.out).mono ?_); rintro e9 w5 ⟨v5, rfl, ho5, hb5⟩)
      have O5 := Lib.hid (ho5.mono HB4.out.size)
      have HB5 := Lib.hid (HB4.out.trans (hb5.mono HB4.out.size))
      obtain ⟨c0, c1, c2, c3, c4, c5, c6⟩ := ch_cells (heap_below HR4.out hb5)
      clear ho5 hb5 HB4 HR4 O4 HP5 HT4
      go_wp2
      clear c0 c1 c2 c3 c4 c5 c6
      go_loopw [3, 27] (fun v9 i9 wr => ∃ k9 : Nat, k9 ≤ m ∧ i9 = .int .i64 (k9 : Int) ∧ OwnB wr w.heap.size 5 v9 (wputN HE l k9) ∧ (wputN HE l k9).length ≤ 48 + 128 * k9 ∧ Below w.heap.size w wr) (fun _ i9 _ => m - (intOf i9).toNat)
      case atStart => exact ⟨0, by omega, rfl, O5.out, by have := HHL.out; show HE.length ≤ _; simpa using this, HB5.out⟩
      case round =>
        clear O5 HB5
        obtain ⟨j, hj, rfl, ho, hlen, hB⟩ := hrel
        by_cases hlt : j < m
        · have hji : (j : Int) < (m : Int) := by omega
          have hjc : (j : Int) < (cap2 : Int) := by omega
          obtain ⟨bk, off, rfl, hat⟩ := HL.out.place hlt
          have hmay := HALL.out j hlt
          have hst9 : wputN HE l (j + 1) = wputS (wputN HE l j) (l.getD j Wr.zero) := rfl
          have hle8 := wput_le (wputN HE l j) hmay
          obtain ⟨y, hy⟩ : ∃ y, l.getD j Wr.zero = y := ⟨_, rfl⟩
          rw [hy] at hat hmay hst9 hle8
          obtain ⟨kx, ix, gx, vx⟩ := y
          simp only at hat
          obtain ⟨f1, f2, f3, f4, f5, f6⟩ := may_few hmay
          simp only at f1 f2 f3 f4 f5 f6
          obtain ⟨acc, hac⟩ : ∃ z, wputN HE l j = z := ⟨_, rfl⟩
          rw [hac] at hst9 hle8 ho hlen
          rw [← hst9] at hle8
          obtain ⟨ax, kk, rfl, -⟩ := ho.bys
          obtain ⟨p0, p1, p2, p3⟩ := hat wr hB
          obtain ⟨u1, hu1⟩ : ∃ z, putTextS acc kx = z := ⟨_, rfl⟩
          obtain ⟨u2, hu2⟩ : ∃ z, u1 ++ numB ix = z := ⟨_, rfl⟩
          have g1 : u1.length ≤ 1200 := by have := putText_le acc kx; rw [← hu1]; omega
          have g2 : u2.length ≤ 1208 := by have := numB_length ix; rw [← hu2, List.length_append]; omega
          have hstep : wputN HE l (j + 1) = if gx = true then u2 ++ numB 1 else putTextS (u2 ++ numB 0) vx := by rw [hst9, ← hu2, ← hu1]; rfl
          have hT1 := fun (W : World) (hh : Bys W ax acc.length kk acc) (hT : TabW W) => puttext_c hh (text kx) (by omega) (by rw [text_size]; omega) hT
          simp only [text_back, hu1] at hT1
          have HT1 := Lib.hid hT1
          have HT2 := Lib.hid (fun (W : World) (a2 : Option Addr) (k2 : Nat) (hh : Bys W a2 u1.length k2 u1) (hT : TabW W) => show Calls _ _ _ _ (BytesPost u2 W) by rw [← hu2]; exact put_c hh (by omega) ix (by omega) (by omega) hT)
          have HSTEP := Lib.hid hstep
          have HLE8 := Lib.hid (show (wputN HE l (j + 1)).length ≤ 48 + 128 * (j + 1) by omega)
          have HBr := Lib.hid hB
          have HOr := Lib.hid ho
          clear hat hmay hst9 hle8 hy ho hB hstep hac hT1 hu1 hu2 f6
          go_upto_region 7 with (fail)
          have hal := alloc_below wr (.cells #[.string (text kx), .int .i64 ix, .bool gx, .string (text vx)] 28)
          have HQ1 := Lib.hid (heap_alloc_new wr (.cells #[.string (text kx), .int .i64 ix, .bool gx, .string (text vx)] 28))
          have HB6 := Lib.hid (HBr.out.trans (hal.mono HBr.out.size))
          have HO6 := Lib.hid (HOr.out.kept hal)
          obtain ⟨gq, hgq⟩ : ∃ z, wr.heap.size = z := ⟨_, rfl⟩
          rw [hgq] at HQ1 ⊢
          clear hgq hal p0 p1 p2 p3 HBr HOr
          generalize wr.alloc (.cells #[.string (text kx), .int .i64 ix, .bool gx, .string (text vx)] 28) = V1 at *
          have HYB := Lib.hid (fun W (h : Below V1.heap.size V1 W) => show Bys W ax acc.length kk acc from (own_bys HO6.out).below h)
          have HQW := Lib.hid (fun W (h : Below V1.heap.size V1 W) => wr_cells (heap_below HQ1.out h))
          have HBs := Lib.hid HB6.out.size
          have HTW := Lib.hid (fun W (h : Below V1.heap.size V1 W) => HT.out.below (HB6.out.trans (h.mono HB6.out.size)))
          refine wp_region_flow_tail 7 [none,none,none,none,none,none,none,none,none,none,none,none,none,none,none,none,none,none,none,none,none,none,none,none,none,none,none,none,none,none,none, some 0, some 1, some 2, some 3, some 4, some 5, some 6, none,none,none,none,none,none,none,none,none,none,none] (fun i => [u31, u32, u33, u34, u35, u36, u37].getD i undef) [(fun v _ => v = .slice ax acc.length kk), (fun v _ => v = .pointer (some ⟨gq, 0, none⟩)), (fun v _ => v = .string (text kx)), (fun v W => OwnB W w.heap.size 5 v u1), (fun v _ => v = .pointer (some ⟨gq, 1, none⟩)), (fun v _ => v = .int .i64 ix), (fun v W => OwnB W w.heap.size 5 v u2)] (fun _ => False) (by kernel_rfl) (by kernel_rfl) (by kernel_rfl) rfl rfl rfl ?_ ?_ ?_
          · intro g hg v X Y hX hY hv
            simp only [List.mem_cons, List.not_mem_nil, or_false] at hg
            rcases hg with rfl | rfl | rfl | rfl | rfl | rfl | rfl
            all_goals first
              | exact hv
              | exact hv.kept hY
          · simp only [flowOpsF, List.take_succ_cons, List.take_zero, and_true]
            refine ⟨?_,?_,?_,?_,?_,?_,?_⟩
            · intro xs W hW hn
              simp only [flowAct, zwc, zwn]
              go_wp2_with (fail)
              exact ⟨rfl, _, rfl, Below.refl _ _, rfl, fun h => h.elim⟩
            · intro xs W hW hn
              simp only [flowAct, zwc, zwn]
              go_wp2_with (fail)
              exact ⟨rfl, _, rfl, Below.refl _ _, rfl, fun h => h.elim⟩
            · intro xs W hW hn
              obtain ⟨p0, p1, p2, p3⟩ := HQW.out W hW
              simp [flowNeeds, Region.binds] at hn
              simp only [flowAct, zwc, zwn]
              try simp only [hn]
              go_wp2_with (fail)
              exact ⟨rfl, _, rfl, Below.refl _ _, rfl, fun h => h.elim⟩
            · intro xs W hW hn
              simp [flowNeeds, Region.binds] at hn
              simp only [flowAct, zwc, zwn]
              simp only [hn]
              go_wp2_with (go_at_call 38; (with_reducible refine (HT1.out _ (HYB.out W hW) (HTW.out W hW)).mono ?_); rintro e9 w9 ⟨v9, rfl, ho9, hb9⟩)
              exact ⟨rfl, _, rfl, hb9, ho9.mono (Nat.le_trans HBs.out hW.size), fun h => h.elim⟩
            · intro xs W hW hn
              simp only [flowAct, zwc, zwn]
              go_wp2_with (fail)
              exact ⟨rfl, _, rfl, Below.refl _ _, rfl, fun h => h.elim⟩
            · intro xs W hW hn
              obtain ⟨p0, p1, p2, p3⟩ := HQW.out W hW
              simp [flowNeeds, Region.binds] at hn
              simp only [flowAct, zwc, zwn]
              try simp only [hn]
              go_wp2_with (fail)
              exact ⟨rfl, _, rfl, Below.refl _ _, rfl, fun h => h.elim⟩
            · intro xs W hW hn
              simp [flowNeeds, Region.binds] at hn
              obtain ⟨ho3, e5⟩ := hn
              obtain ⟨a2, k2, e3, hy3⟩ := ho3.bys
              simp only [flowAct, zwc, zwn]
              simp only [e3, e5]
              go_wp2_with (go_at_call 35; (with_reducible refine (HT2.out _ _ _ hy3 (HTW.out W hW)).mono ?_); rintro e9 w9 ⟨v9, rfl, ho9, hb9⟩)
              exact ⟨rfl, _, rfl, hb9, ho9.mono (Nat.le_trans HBs.out hW.size), fun h => h.elim⟩
          · intro xs W hW hall hfr
            clear hfr
            simp only [flowAll, and_true, Nat.zero_add, Nat.reduceAdd] at hall
            obtain ⟨-,-,-,-,-,-, e6⟩ := hall
            simp only [flowAct, zwc, zwn, List.drop_succ_cons, List.drop_zero]
            obtain ⟨a7, k7, e3, -⟩ := e6.bys
            have O7 := Lib.hid e6
            rw [e3] at O7
            simp only [e3]
            clear e6 e3 HT1 HT2 HYB HO6 HTW
            have HB7 := Lib.hid (HB6.out.trans (hW.mono HB6.out.size))
            have HQ7 := Lib.hid (heap_below HQ1.out hW)
            clear hW HB6 HQ1 HQW HBs
            obtain ⟨W7, hW7⟩ : ∃ X, W = X := ⟨_, rfl⟩
            rw [hW7] at HB7 HQ7 O7 ⊢
            clear hW7
            obtain ⟨p0, p1, p2, p3⟩ := wr_cells HQ7.out
            cases gx with
            | true =>
              have HP8 := Lib.hid (show Calls _ _ _ _ (BytesPost (wputN HE l (j + 1)) W7) by rw [HSTEP.out]; exact put_c (own_bys O7.out) (by omega) 1 (by omega) (by omega) (HT.out.below HB7.out))
              go_wp2_with (go_at_call 35; (with_reducible refine HP8.out.mono ?_); rintro e9 w9 ⟨v9, rfl, ho9, hb9⟩)
              go_roundw
              case rel => exact ⟨j + 1, by omega, by go_num, ho9.mono HB7.out.size, HLE8.out, HB7.out.trans (hb9.mono HB7.out.size)⟩
              case measure => simp [intOf]; omega
            | false =>
              obtain ⟨u3, hu3⟩ : ∃ z, u2 ++ numB 0 = z := ⟨_, rfl⟩
              have g3 : u3.length ≤ 1216 := by have := numB_length 0; rw [← hu3, List.length_append]; omega
              have hst2 := HSTEP.out
              rw [if_neg (by decide), hu3] at hst2
              have HP8 := Lib.hid (fun W (h : Below W7.heap.size W7 W) => show Calls _ _ _ _ (BytesPost u3 W) by rw [← hu3]; exact put_c ((own_bys O7.out).below h) (by omega) 0 (by omega) (by omega) (HT.out.below (HB7.out.trans (h.mono HB7.out.size))))
              have hT9 := fun (W : World) (a2 : Option Addr) (k2 : Nat) (hh : Bys W a2 u3.length k2 u3) (hT : TabW W) => puttext_c hh (text vx) (by omega) (by rw [text_size]; omega) hT
              simp only [text_back, ← hst2] at hT9
              have HT9 := Lib.hid hT9
              have HQW := Lib.hid (fun W (h : Below W7.heap.size W7 W) => wr_cells (heap_below HQ7.out h))
              have HBs := Lib.hid HB7.out.size
              have HTW := Lib.hid (fun W (h : Below W7.heap.size W7 W) => HT.out.below (HB7.out.trans (h.mono HB7.out.size)))
              clear hT9 hst2 hu3 HSTEP
              go_upto_region 10 with (fail)
              clear p0 p1 p2 p3
              refine wp_region_flow_tail 5 [none,none,none,none,none,none,none,none,none,none,none,none,none,none,none,none,none,none,none,none,none,none,none,none,none,none,none,none,none,none,none,none,none,none,none,none,none,none,none,none,none,none, some 0, some 1, some 2, some 3, some 4, none,none] (fun i => [u42, u43, u44, u45, u46].getD i undef) [(fun v _ => v = .slice a7 u2.length k7), (fun v W => OwnB W w.heap.size 5 v u3), (fun v _ => v = .pointer (some ⟨gq, 3, none⟩)), (fun v _ => v = .string (text vx)), (fun v W => OwnB W w.heap.size 5 v (wputN HE l (j + 1)))] (fun _ => False) (by kernel_rfl) (by kernel_rfl) (by kernel_rfl) rfl rfl rfl ?_ ?_ ?_
              · intro g hg v X Y hX hY hv
                simp only [List.mem_cons, List.not_mem_nil, or_false] at hg
                rcases hg with rfl | rfl | rfl | rfl | rfl
                all_goals first
                  | exact hv
                  | exact hv.kept hY
              · simp only [flowOpsF, List.take_succ_cons, List.take_zero, and_true]
                refine ⟨?_,?_,?_,?_,?_⟩
                · intro xs W hW hn
                  simp only [flowAct, zwc, zwn]
                  go_wp2_with (fail)
                  exact ⟨rfl, _, rfl, Below.refl _ _, rfl, fun h => h.elim⟩
                · intro xs W hW hn
                  simp [flowNeeds, Region.binds] at hn
                  simp only [flowAct, zwc, zwn]
                  simp only [hn]
                  go_wp2_with (go_at_call 35; (with_reducible refine (HP8.out _ hW).mono ?_); rintro e9 w9 ⟨v9, rfl, ho9, hb9⟩)
                  exact ⟨rfl, _, rfl, hb9, ho9.mono (Nat.le_trans HBs.out hW.size), fun h => h.elim⟩
                · intro xs W hW hn
                  simp only [flowAct, zwc, zwn]
                  go_wp2_with (fail)
                  exact ⟨rfl, _, rfl, Below.refl _ _, rfl, fun h => h.elim⟩
                · intro xs W hW hn
                  obtain ⟨p0, p1, p2, p3⟩ := HQW.out W hW
                  simp [flowNeeds, Region.binds] at hn
                  simp only [flowAct, zwc, zwn]
                  try simp only [hn]
                  go_wp2_with (fail)
                  exact ⟨rfl, _, rfl, Below.refl _ _, rfl, fun h => h.elim⟩
                · intro xs W hW hn
                  simp [flowNeeds, Region.binds] at hn
                  obtain ⟨ho3, e5⟩ := hn
                  obtain ⟨a2, k2, e3, hy3⟩ := ho3.bys
                  simp only [flowAct, zwc, zwn]
                  simp only [e3, e5]
                  go_wp2_with (go_at_call 38; (with_reducible refine (HT9.out _ _ _ hy3 (HTW.out W hW)).mono ?_); rintro e9 w9 ⟨v9, rfl, ho9, hb9⟩)
                  exact ⟨rfl, _, rfl, hb9, ho9.mono (Nat.le_trans HBs.out hW.size), fun h => h.elim⟩
              · intro xs W hW hall hfr
                clear hfr
                simp only [flowAll, and_true, Nat.zero_add, Nat.reduceAdd] at hall
                obtain ⟨-,-,-,-, e4⟩ := hall
                simp only [flowAct, zwc, zwn, List.drop_succ_cons, List.drop_zero]
                have HB8 := Lib.hid (HB7.out.trans (hW.mono HB7.out.size))
                have O8 := Lib.hid e4
                go_wp2
                go_roundw
                case rel => exact ⟨j + 1, by omega, by go_num, O8.out, HLE8.out, HB8.out⟩
                case measure => simp [intOf]; omega
        · obtain rfl : m = j := by omega
          obtain ⟨ax, kk, rfl, -⟩ := ho.bys
          have HO := Lib.hid ho
          have HB := Lib.hid hB
          clear ho hB
          go_wp2
          go_ret
          exact ⟨_, rfl, HO.out, HB.out⟩
set_option maxHeartbeats 3200000 in
theorem chput_c {w : World} {ad : Option Addr} {m9 cap9 : Nat} {by9 : List UInt8} (hy : Bys w ad m9 cap9 by9) (hm9 : m9 ≤ 5400) {x x2 : Option Addr} {n1 cap m cap2 : Nat} {gs : List Grp} {l : List Wr} (hg : Grs w x n1 cap gs) (hs : ∀ g ∈ gs, g.1.length ≤ 9223372036854775807) (hl : Wrs w x2 m cap2 l) (hx : WShort l) (hT : TabW w) (site seq n s a b : Int) :
    Calls Tryd.prog 13 #[.slice ad m9 cap9, .slice x n1 cap, .agg #[.int .i64 site, .int .i64 seq, .int .i64 n, .int .i64 s, .int .i64 a, .int .i64 b, .slice x2 m cap2]] w (BytesPost (chputS by9 gs site seq n s a b l) w) := by
  have hgl := hg.len
  have hll := hl.len
  have HGD := Lib.hid (fun W (h : Below w.heap.size w W) => chgood_c (hg.below h) hs (hl.below h) hx site seq n s a b)
  have HIV := Lib.hid (@ch_inv gs site seq n s a b l)
  have HP := Lib.hid (show chgoodS gs site seq n s a b l = 0 → chputS by9 gs site seq n s a b l = by9 ++ wputN (cheadB [] site seq n s a b m) l m from fun h => by
    unfold chputS
    rw [if_pos h, hll, wputN_nil, wputN_nil (cheadB [] site seq n s a b m)]
    unfold cheadB
    rw [← List.append_assoc]
    congr 1
    simp only [List.nil_append]
    rw [List.append_assoc by9, sput_app, vput_app, List.append_assoc])
  have HQ := Lib.hid (show ¬ chgoodS gs site seq n s a b l = 0 → chputS by9 gs site seq n s a b l = by9 from fun h => by unfold chputS; rw [if_neg h])
  have HLY := Lib.hid (show chgoodS gs site seq n s a b l = 0 → (wputN (cheadB [] site seq n s a b m) l m).length ≤ 1200 ∧ ∀ W, Below w.heap.size w W → Calls Tryd.prog 22 #[.agg #[.int .i64 site, .int .i64 seq, .int .i64 n, .int .i64 s, .int .i64 a, .int .i64 b, .slice x2 m cap2]] W (BytesPost (wputN (cheadB [] site seq n s a b m) l m) W) from fun h => by
    obtain ⟨hp0, hhd, hall⟩ := ch_inv h
    rw [hll] at hhd hall
    obtain ⟨hd1, hd2, hd3, -,-,-,-, hd4, hd5⟩ := head_ok hhd
    have hn4 := pgood_len hp0
    rw [hgl] at hn4 hall
    have hma : ∀ k, k < m → mayS n1 (l.getD k Wr.zero) = true := fun k hk => w_at (hall k hk)
    refine ⟨?_, fun W hW => chlay_c n1 (hl.below hW) hd5 hma (by omega) (hT.below hW) site seq n s a b (by omega) hd2 hd3⟩
    have h1 := chead_le [] site seq n s a b m
    have : ∀ k, k ≤ m → (wputN (cheadB [] site seq n s a b m) l k).length ≤ 48 + 128 * k := by
      intro k
      induction k with
      | zero => intro _; show (cheadB [] site seq n s a b m).length ≤ _; simpa using h1
      | succ k ih =>
        intro hk
        have h2 := ih (by omega)
        have h3 := wput_le (wputN (cheadB [] site seq n s a b m) l k) (hma k (by omega))
        show (wputS _ _).length ≤ _
        omega
    have := this m (Nat.le_refl _)
    omega)
  obtain ⟨RV, hRV⟩ : ∃ z, chputS by9 gs site seq n s a b l = z := ⟨_, rfl⟩
  rw [hRV] at HP HQ ⊢
  obtain ⟨R, hR⟩ : ∃ z, chgoodS gs site seq n s a b l = z := ⟨_, rfl⟩
  rw [hR] at HP HQ HLY
  simp only [hR] at HGD
  obtain ⟨o, ho⟩ : ∃ o, wputN (cheadB [] site seq n s a b m) l m = o := ⟨_, rfl⟩
  rw [ho] at HP
  simp only [ho] at HLY
  have HL := Lib.hid (fun W (h : Below w.heap.size w W) => hy.below h)
  have hr := heap_alloc_new w (.cells #[.int .i64 site, .int .i64 seq, .int .i64 n, .int .i64 s, .int .i64 a, .int .i64 b, .slice x2 m cap2] 39)
  have hb := alloc_below w (.cells #[.int .i64 site, .int .i64 seq, .int .i64 n, .int .i64 s, .int .i64 a, .int .i64 b, .slice x2 m cap2] 39)
  clear hRV hR ho hg hs hl hx hy hT HIV
  have HC := Lib.hid (fun W (h : Below (w.alloc (.cells #[.int .i64 site, .int .i64 seq, .int .i64 n, .int .i64 s, .int .i64 a, .int .i64 b, .slice x2 m cap2] 39)).heap.size (w.alloc (.cells #[.int .i64 site, .int .i64 seq, .int .i64 n, .int .i64 s, .int .i64 a, .int .i64 b, .slice x2 m cap2] 39)) W) => ch_cells (heap_below hr h))
  have HB := Lib.hid hb
  clear hr hb
  by_cases h0 : R = 0
  · subst h0
    have HRR := Lib.hid (HP.out (by first | rfl | trivial))
    obtain ⟨hol, hla⟩ := HLY.out (by first | rfl | trivial)
    have HLa := Lib.hid hla
    clear HP HQ HLY hla
    go_enter Tryd.func13, Tryd.ntmps13
    go_upto_region 1 with (fail)
    generalize w.alloc (.cells #[.int .i64 site, .int .i64 seq, .int .i64 n, .int .i64 s, .int .i64 a, .int .i64 b, .slice x2 m cap2] 39) = W1 at *
    obtain ⟨c0, c1, c2, c3, c4, c5, c6⟩ := HC.out _ (Below.refl _ _)
    go_upto_region 3 with (go_at_call 11; (with_reducible refine (HGD.out _ HB.out).mono ?_); rintro e9 w1 ⟨rfl, hb1⟩)
    obtain ⟨c0, c1, c2, c3, c4, c5, c6⟩ := HC.out _ hb1
    have HB1 := Lib.hid (HB.out.trans (hb1.mono HB.out.size))
    clear hb1 HB
    go_upto_region 4 with (go_at_call 22; (with_reducible refine (HLa.out _ HB1.out).mono ?_); rintro e9 w2 ⟨v2, rfl, ho2, hb2⟩)
    obtain ⟨a2, k2, rfl, hy2⟩ := ho2.bys
    have hal := alloc_below w2 (.cells #[.slice ad m9 cap9, .slice a2 o.length k2] 43)
    have HBw := HB1.out.trans (hb2.mono HB1.out.size)
    have hc := concat_c (w := w2.alloc (.cells #[.slice ad m9 cap9, .slice a2 o.length k2] 43)) (q := w2.heap.size) (by rw [cell_of_row _ w2.heap.size 0 _ _ (0, 0) (heap_alloc_new w2 _)]; rfl) (by rw [cell_of_row _ w2.heap.size 1 _ _ (0, 0) (heap_alloc_new w2 _)]; rfl) ((HL.out _ HBw).below hal) (hy2.below hal) (by omega) (by omega)
    have HCC := Lib.hid hc
    have HB2 := Lib.hid (HBw.alloc (Nat.le_trans HB1.out.size hb2.size) (.cells #[.slice ad m9 cap9, .slice a2 o.length k2] 43))
    clear hc hal hb2 ho2 hy2 HBw c0 c1 c2 c3 c4 c5 c6
    go_wp2_with (go_at_call 23; (with_reducible refine HCC.out.mono ?_); rintro e9 w9 ⟨v9, rfl, ho9, hb9⟩)
    go_ret
    exact ⟨_, rfl, by rw [HRR.out]; exact ho9.mono HB2.out.size, HB2.out.trans (hb9.mono HB2.out.size)⟩
  · have h0n : (R == 0) = false := by simpa using h0
    have HRR := Lib.hid (HQ.out h0)
    clear HP HQ HLY
    go_enter Tryd.func13, Tryd.ntmps13
    go_upto_region 1 with (fail)
    generalize w.alloc (.cells #[.int .i64 site, .int .i64 seq, .int .i64 n, .int .i64 s, .int .i64 a, .int .i64 b, .slice x2 m cap2] 39) = W1 at *
    obtain ⟨c0, c1, c2, c3, c4, c5, c6⟩ := HC.out _ (Below.refl _ _)
    go_upto_region 4 with (go_at_call 11; (with_reducible refine (HGD.out _ HB.out).mono ?_); rintro e9 w1 ⟨rfl, hb1⟩)
    have hal := alloc_below w1 (.cells #[.slice ad m9 cap9, .slice none 0 0] 43)
    have HBw := HB.out.trans (hb1.mono HB.out.size)
    have hc := concat_c (w := w1.alloc (.cells #[.slice ad m9 cap9, .slice none 0 0] 43)) (q := w1.heap.size) (l' := []) (m' := 0) (cap' := 0) (ad' := none) (by rw [cell_of_row _ w1.heap.size 0 _ _ (0, 0) (heap_alloc_new w1 _)]; rfl) (by rw [cell_of_row _ w1.heap.size 1 _ _ (0, 0) (heap_alloc_new w1 _)]; rfl) ((HL.out _ HBw).below hal) (bys_nil _) (by omega) (by omega)
    rw [List.append_nil] at hc
    have HCC := Lib.hid hc
    have HB2 := Lib.hid (HBw.alloc (Nat.le_trans HB.out.size hb1.size) (.cells #[.slice ad m9 cap9, .slice none 0 0] 43))
    clear hc hal hb1 HBw c0 c1 c2 c3 c4 c5 c6
    go_wp2_with (go_at_call 23; (with_reducible refine HCC.out.mono ?_); rintro e9 w9 ⟨v9, rfl, ho9, hb9⟩)
    go_ret
    exact ⟨_, rfl, by rw [HRR.out]; exact ho9.mono HB2.out.size, HB2.out.trans (hb9.mono HB2.out.size)⟩
end Go.Proofs.YtjkifdjjcfempaaDoor
end

section
namespace Go.Proofs.YtjkifdjjcfempaaDoor
open Go.RowKit Go Go.Sort
set_option linter.unusedVariables false
set_option maxRecDepth 20000

theorem mem_getDw {l : List Wr} {k : Nat} (h : k < l.length) : l.getD k Wr.zero ∈ l := by
  rw [List.getD_eq_getElem?_getD, List.getElem?_eq_getElem h]; exact List.getElem_mem h
def lightW (g : Nat) (ws : List Wr) : Nat → Nat
  | 0 => satN 0 g
  | k + 1 => satN (satN (satN (lightW g ws k) 10) (ws.getD k Wr.zero).k.length) (ws.getD k Wr.zero).v.length
theorem lightW_le (g : Nat) (ws : List Wr) : ∀ k, lightW g ws k ≤ 5001
  | 0 => satN_le _ _
  | k + 1 => satN_le _ _
theorem lightW_full {g k : Nat} {ws : List Wr} (h : 5000 < lightW g ws k) : ∀ j, k ≤ j → lightW g ws j = 5001
  | 0, hj => by
    obtain rfl : k = 0 := by omega
    have := lightW_le g ws 0
    omega
  | j + 1, hj => by
    by_cases e : k = j + 1
    · subst e
      have := lightW_le g ws (j + 1)
      omega
    · have h0 := lightW_full h j (by omega)
      have h1 := satN_full (show 5000 < lightW g ws j by omega) 10
      have h2 := satN_full (show 5000 < satN (lightW g ws j) 10 by omega) (ws.getD j Wr.zero).k.length
      exact satN_full (by omega) _
theorem lightW_fits {g : Nat} {ws : List Wr} : ∀ {m : Nat}, lightW g ws m ≤ 5000 → lightW g ws m ≤ 5000 ∧ g ≤ 5000 ∧ m * 10 ≤ lightW g ws m ∧ ∀ j, j < m → (ws.getD j Wr.zero).k.length ≤ 5000 ∧ (ws.getD j Wr.zero).v.length ≤ 5000
  | 0, h => ⟨h, by have := satN_fits (n := 0) (k := g) h; omega, by omega, fun j hj => by omega⟩
  | m + 1, h => by
    obtain ⟨h1, h2⟩ := satN_fits (n := satN (satN (lightW g ws m) 10) (ws.getD m Wr.zero).k.length) h
    obtain ⟨h3, h4⟩ := satN_fits (n := satN (lightW g ws m) 10) (k := (ws.getD m Wr.zero).k.length) (by omega)
    obtain ⟨h5, h6⟩ := satN_fits (n := lightW g ws m) (k := 10) (by omega)
    obtain ⟨h7, h8, h9, h10⟩ := lightW_fits (g := g) (ws := ws) (m := m) (by omega)
    have he : lightW g ws (m + 1) = satN (satN (satN (lightW g ws m) 10) (ws.getD m Wr.zero).k.length) (ws.getD m Wr.zero).v.length := rfl
    refine ⟨h, h8, by omega, fun j hj => ?_⟩
    by_cases e : j = m
    · subst e; omega
    · exact h10 j (by omega)

set_option maxRecDepth 100000 in
set_option maxHeartbeats 6400000 in
theorem lightw_c {w : World} {x x2 : Option Addr} {n1 cap m cap2 : Nat} {l : List Wr} (hn1 : n1 ≤ 9223372036854775807) (hl : Wrs w x2 m cap2 l) (hx : WShort l) : Calls Tryd.prog 5 #[.slice x n1 cap, .slice x2 m cap2] w (Tells (.bool (decide (lightW n1 l m ≤ 5000))) w) := by
  have hle2 := hl.le
  have hmax2 := hl.max
  have hll := hl.len
  have HL := Lib.hid hl
  have HX := Lib.hid hx
  have HAF := Lib.hid (fun W => show Calls Tryd.prog 10 #[.int .i64 0, .int .i64 (n1 : Int), .int .i64 5000] W _ from radd_c 0 n1 (by omega) hn1 W)
  have HF := Lib.hid (@lightW_full n1 · l)
  clear hl hx
  obtain ⟨R, hR⟩ : ∃ z, lightW n1 l m = z := ⟨_, rfl⟩
  rw [hR]
  have HR := Lib.hid hR
  clear hR
  go_enter Tryd.func5, Tryd.ntmps5
  go_upto_region 3 with (go_at_call 10; (with_reducible refine (HAF.out _).mono ?_); rintro e9 w9 ⟨rfl, rfl⟩)
  go_loopw [5, 6] (fun v i9 wr => ∃ (k nk : Nat), k ≤ m ∧ i9 = .int .i64 k ∧ v = .int .i64 (nk : Int) ∧ lightW n1 l k = nk ∧ Below w.heap.size w wr) (fun _ i9 _ => m - (intOf i9).toNat)
  case atStart => exact ⟨0, satN 0 n1, by omega, rfl, rfl, rfl, Below.refl _ _⟩
  case round =>
    obtain ⟨k, nk, hk, rfl, rfl, hnk, hB⟩ := hrel
    have hn5 : nk ≤ 5001 := by rw [← hnk]; exact lightW_le _ _ _
    have HNK := Lib.hid hnk
    have HB := Lib.hid hB
    clear hnk hB
    by_cases hkm : k < m
    · have hki : (k : Int) < (m : Int) := by omega
      have hkc : (k : Int) < (cap2 : Int) := by omega
      by_cases hf : 5000 < nk
      · have hfi : ¬ (nk : Int) ≤ 5000 := by omega
        have HRN := Lib.hid (show R = 5001 by rw [← HR.out]; exact lightW_full (k := k) (by rw [HNK.out]; exact hf) m hk)
        have hd : decide (R ≤ 5000) = false := by rw [HRN.out]; rfl
        have HD := Lib.hid hd
        clear hd
        go_wp2
        go_ret
        exact ⟨by rw [HD.out]; rfl, HB.out⟩
      · have hfi : (nk : Int) ≤ 5000 := by omega
        obtain ⟨bk, off, rfl, hat⟩ := HL.out.place hkm
        have hm1 : l.getD k Wr.zero ∈ l := mem_getDw (by omega)
        have hcx := HX.out _ hm1
        have hst : lightW n1 l (k + 1) = satN (satN (satN nk 10) (l.getD k Wr.zero).k.length) (l.getD k Wr.zero).v.length := by rw [← HNK.out]; rfl
        obtain ⟨y, hy⟩ : ∃ y, l.getD k Wr.zero = y := ⟨_, rfl⟩
        rw [hy] at hat hcx hst
        obtain ⟨kx, ix, gx, vx⟩ := y
        simp only at hat hcx hst
        have HST := Lib.hid hst
        have HAT := Lib.hid (fun W (h : Below wr.heap.size wr W) => hat W (HB.out.trans (h.mono HB.out.size)))
        have HSZ := Lib.hid (show ((text kx).size : Int) = (kx.length : Int) by rw [text_size])
        have HSZ2 := Lib.hid (show ((text vx).size : Int) = (vx.length : Int) by rw [text_size])
        have HA0 := Lib.hid (fun W => show Calls Tryd.prog 10 #[.int .i64 (nk : Int), .int .i64 10, .int .i64 5000] W _ from radd_c nk 10 hn5 (by omega) W)
        have HA1 := Lib.hid (fun W => radd_c (satN nk 10) kx.length (satN_le _ _) hcx.1 W)
        have HA2 := Lib.hid (fun W => radd_c (satN (satN nk 10) kx.length) vx.length (satN_le _ _) hcx.2 W)
        clear hat hm1 hcx hst hy
        go_upto_region 5 with (fail)
        refine wp_region_flow_tail 15 [none,none,none,none,none,none,none,none,none,none,none,none,none,none,none,none,none,none,none,none, some 0, some 1, some 2, some 3, some 4, some 5, some 6, some 7, some 8, some 9, some 10, some 11, some 12, some 13, some 14, none,none,none] (fun i => [u20, u21, u22, u23, u24, u25, u26, u27, u28, u29, u30, u31, u32, u33, u34].getD i undef) [(fun v _ => v = .int .i64 (nk : Int)), (fun v _ => v = .int .i64 ((satN nk 10 : Nat) : Int)), (fun v _ => v = .slice (some ⟨bk, off, none⟩) m cap2), (fun v _ => v = .int .i64 (k : Int)), (fun v _ => v = .pointer (some ⟨bk, off + k * 4, none⟩)), (fun v _ => v = .pointer (some ⟨bk, off + k * 4, none⟩)), (fun v _ => v = .string (text kx)), (fun v _ => v = .int .i64 (kx.length : Int)), (fun v _ => v = .int .i64 ((satN (satN nk 10) kx.length : Nat) : Int)), (fun v _ => v = .slice (some ⟨bk, off, none⟩) m cap2), (fun v _ => v = .int .i64 (k : Int)), (fun v _ => v = .pointer (some ⟨bk, off + k * 4, none⟩)), (fun v _ => v = .pointer (some ⟨bk, off + k * 4 + 3, none⟩)), (fun v _ => v = .string (text vx)), (fun v _ => v = .int .i64 (vx.length : Int))] (fun _ => False) (by kernel_rfl) (by kernel_rfl) (by kernel_rfl) rfl rfl rfl ?_ ?_ ?_
        · intro g hg v X Y hX hY hv
          simp only [List.mem_cons, List.not_mem_nil, or_false] at hg
          rcases hg with rfl | rfl | rfl | rfl | rfl | rfl | rfl | rfl | rfl | rfl | rfl | rfl | rfl | rfl | rfl
          all_goals first
            | exact hv
            | exact hv.kept hY
        · simp only [flowOpsF, List.take_succ_cons, List.take_zero, and_true]
          refine ⟨?_,?_,?_,?_,?_,?_,?_,?_,?_,?_,?_,?_,?_,?_,?_⟩
          · intro xs W hW hn
            simp only [flowAct, zwc, zwn]
            go_wp2_with (fail)
            exact ⟨rfl, _, rfl, Below.refl _ _, rfl, fun h => h.elim⟩
          · intro xs W hW hn
            simp [flowNeeds, Region.binds] at hn
            simp only [flowAct, zwc, zwn]
            simp only [hn]
            go_wp2_with (go_at_call 10; (with_reducible refine (HA0.out _).mono ?_); rintro e9 w9 ⟨rfl, rfl⟩)
            exact ⟨rfl, _, rfl, Below.refl _ _, rfl, fun h => h.elim⟩
          · intro xs W hW hn
            simp only [flowAct, zwc, zwn]
            go_wp2_with (fail)
            exact ⟨rfl, _, rfl, Below.refl _ _, rfl, fun h => h.elim⟩
          · intro xs W hW hn
            simp only [flowAct, zwc, zwn]
            go_wp2_with (fail)
            exact ⟨rfl, _, rfl, Below.refl _ _, rfl, fun h => h.elim⟩
          · intro xs W hW hn
            simp [flowNeeds, Region.binds] at hn
            simp only [flowAct, zwc, zwn]
            try simp only [hn]
            go_wp2_with (fail)
            exact ⟨rfl, _, rfl, Below.refl _ _, rfl, fun h => h.elim⟩
          · intro xs W hW hn
            simp [flowNeeds, Region.binds] at hn
            simp only [flowAct, zwc, zwn]
            try simp only [hn]
            go_wp2_with (fail)
            exact ⟨rfl, _, rfl, Below.refl _ _, rfl, fun h => h.elim⟩
          · intro xs W hW hn
            obtain ⟨p0, p1, p2, p3⟩ := HAT.out W hW
            simp [flowNeeds, Region.binds] at hn
            simp only [flowAct, zwc, zwn]
            try simp only [hn]
            go_wp2_with (fail)
            exact ⟨rfl, _, rfl, Below.refl _ _, rfl, fun h => h.elim⟩
          · intro xs W hW hn
            have hsz := HSZ.out
            simp [flowNeeds, Region.binds] at hn
            simp only [flowAct, zwc, zwn]
            try simp only [hn]
            go_wp2_with (fail)
            exact ⟨rfl, _, rfl, Below.refl _ _, rfl, fun h => h.elim⟩
          · intro xs W hW hn
            simp [flowNeeds, Region.binds] at hn
            simp only [flowAct, zwc, zwn]
            simp only [hn]
            go_wp2_with (go_at_call 10; (with_reducible refine (HA1.out _).mono ?_); rintro e9 w9 ⟨rfl, rfl⟩)
            exact ⟨rfl, _, rfl, Below.refl _ _, rfl, fun h => h.elim⟩
          · intro xs W hW hn
            simp only [flowAct, zwc, zwn]
            go_wp2_with (fail)
            exact ⟨rfl, _, rfl, Below.refl _ _, rfl, fun h => h.elim⟩
          · intro xs W hW hn
            simp only [flowAct, zwc, zwn]
            go_wp2_with (fail)
            exact ⟨rfl, _, rfl, Below.refl _ _, rfl, fun h => h.elim⟩
          · intro xs W hW hn
            simp [flowNeeds, Region.binds] at hn
            simp only [flowAct, zwc, zwn]
            try simp only [hn]
            go_wp2_with (fail)
            exact ⟨rfl, _, rfl, Below.refl _ _, rfl, fun h => h.elim⟩
          · intro xs W hW hn
            simp [flowNeeds, Region.binds] at hn
            simp only [flowAct, zwc, zwn]
            try simp only [hn]
            go_wp2_with (fail)
            exact ⟨rfl, _, rfl, Below.refl _ _, rfl, fun h => h.elim⟩
          · intro xs W hW hn
            obtain ⟨p0, p1, p2, p3⟩ := HAT.out W hW
            simp [flowNeeds, Region.binds] at hn
            simp only [flowAct, zwc, zwn]
            try simp only [hn]
            go_wp2_with (fail)
            exact ⟨rfl, _, rfl, Below.refl _ _, rfl, fun h => h.elim⟩
          · intro xs W hW hn
            have hsz2 := HSZ2.out
            simp [flowNeeds, Region.binds] at hn
            simp only [flowAct, zwc, zwn]
            try simp only [hn]
            go_wp2_with (fail)
            exact ⟨rfl, _, rfl, Below.refl _ _, rfl, fun h => h.elim⟩
        · intro xs W hW hall hfr
          clear hfr
          simp only [flowAll, and_true, Nat.zero_add, Nat.reduceAdd] at hall
          obtain ⟨-,-,-,-,-,-,-,-, e8, -,-,-,-,-, e14⟩ := hall
          simp only [flowAct, zwc, zwn, List.drop_succ_cons, List.drop_zero]
          simp only [e8, e14]
          have HB5 := Lib.hid (HB.out.trans (hW.mono HB.out.size))
          clear hW e8 e14 HA0 HA1 HAT HSZ HSZ2
          go_wp2_with (go_at_call 10; (with_reducible refine (HA2.out _).mono ?_); rintro e9 w9 ⟨rfl, rfl⟩)
          go_roundw
          case rel => exact ⟨k + 1, _, by omega, by go_num, rfl, HST.out, HB5.out⟩
          case measure => simp [intOf]; omega
    · obtain rfl : k = m := by omega
      have hfd : decide ((nk : Int) ≤ 5000) = decide (nk ≤ 5000) := by simp only [decide_eq_decide]; omega
      have HD := Lib.hid (show decide ((nk : Int) ≤ 5000) = decide (R ≤ 5000) by rw [hfd, ← HNK.out, HR.out])
      clear hfd
      go_wp2
      go_ret
      exact ⟨by rw [← HD.out]; rfl, HB.out⟩
theorem chschema_c (w : World) : Calls Tryd.prog 12 #[] w (fun e w' => ∃ v, e = .returned v ∧ SchV v w' ∧ Below w.heap.size w w') := by
  go_enter Tryd.func12, Tryd.ntmps12
  go_wp2
  go_ret
  exact ⟨_, rfl, ⟨_, rfl, heap_alloc_new _ _⟩, alloc_below _ _⟩
def exW : List Wr := [⟨[107], 0, false, [120]⟩]
theorem ex_good : chgoodS exG 1 1 1 1 1 0 exW = 0 := by decide +kernel
theorem ex_put : chputS [] exG 1 1 1 1 1 0 exW = [1, 1, 2, 1, 0, 1, 1, 107, 0, 0, 1, 120] := by decide +kernel
theorem ex_short : WShort exW := by
  intro c hc
  rw [List.mem_singleton.1 hc]
  exact ⟨by decide, by decide⟩
set_option maxRecDepth 100000 in
set_option maxHeartbeats 6400000 in
theorem chlives_c {w : World} (hT : TabW w) : Calls Tryd.prog 6 #[] w (Tells (.bool true) w) := by
  have hGD := fun (W : World) (a x2 : Option Addr) (hg : Grs W a 2 2 exG) (hl : Wrs W x2 1 1 exW) => chgood_c hg (by decide) hl ex_short 1 1 1 1 1 0
  simp only [ex_good] at hGD
  have hPT := fun (W : World) (a x2 : Option Addr) (hg : Grs W a 2 2 exG) (hl : Wrs W x2 1 1 exW) (hT : TabW W) => chput_c (ad := none) (m9 := 0) (cap9 := 0) (by9 := []) ⟨rfl, Nat.le_refl _, by omega, .inl rfl⟩ (by omega) hg (by decide) hl ex_short hT 1 1 1 1 1 0
  simp only [ex_put] at hPT
  obtain ⟨X, hX⟩ : ∃ X, ([1, 1, 2, 1, 0, 1, 1, 107, 0, 0, 1, 120] : List UInt8) = X := ⟨_, rfl⟩
  have hcv := fun (W : World) (a : Option Addr) (c n : Nat) (h : Bys W a n c X) => conv_bys (P := Tryd.prog) (src := 43) (dst := 9) (e := 5) h Tryd.underlying43 Tryd.underlying5 Tryd.underlying9
  have hT2 : text X = ⟨#[1, 1, 2, 1, 0, 1, 1, 107, 0, 0, 1, 120]⟩ := by rw [← hX]; rfl
  rw [hT2] at hcv
  rw [hX] at hPT
  have HCV := Lib.hid hcv
  have HT := Lib.hid hT
  have hr := heap_alloc_new w (.cells #[.string ⟨#[107]⟩, .int .i64 0, .bool false, .string ⟨#[120]⟩] 28)
  have hb := alloc_below w (.cells #[.string ⟨#[107]⟩, .int .i64 0, .bool false, .string ⟨#[120]⟩] 28)
  clear hcv hT hT2 hX
  go_enter Tryd.func6, Tryd.ntmps6
  go_upto_region 2 with (fail)
  obtain ⟨q1, hq1⟩ : ∃ q, w.heap.size = q := ⟨_, rfl⟩
  have hs1 := World.size_alloc w (.cells #[.string ⟨#[107]⟩, .int .i64 0, .bool false, .string ⟨#[120]⟩] 28)
  rw [hq1] at hr hs1
  try rw [hq1]
  generalize w.alloc (.cells #[.string ⟨#[107]⟩, .int .i64 0, .bool false, .string ⟨#[120]⟩] 28) = V1 at *
  have hr2 := heap_alloc_new V1 (.cells #[.int .i64 1, .int .i64 1, .int .i64 1, .int .i64 1, .int .i64 1, .int .i64 0, .slice (some ⟨q1, 0, none⟩) 1 1] 39)
  have hb2 := alloc_below V1 (.cells #[.int .i64 1, .int .i64 1, .int .i64 1, .int .i64 1, .int .i64 1, .int .i64 0, .slice (some ⟨q1, 0, none⟩) 1 1] 39)
  rw [hs1] at hr2
  obtain ⟨q2, hq2⟩ : ∃ q, q1 + 1 = q := ⟨_, rfl⟩
  rw [hq2] at hr2 hs1
  try rw [hs1]
  try rw [hq2]
  have HB := Lib.hid (hb.trans (hb2.mono hb.size))
  have hrw := heap_below hr hb2
  clear hr hb hb2 hs1 hq1 hq2
  generalize V1.alloc (.cells #[.int .i64 1, .int .i64 1, .int .i64 1, .int .i64 1, .int .i64 1, .int .i64 0, .slice (some ⟨q1, 0, none⟩) 1 1] 39) = W1 at *
  have HL := Lib.hid (show Wrs W1 (some ⟨q1, 0, none⟩) 1 1 exW from ⟨rfl, Nat.le_refl _, by omega, .inr ⟨q1, 0, rfl, fun i hi j v hv => by
    obtain rfl : i = 0 := by omega
    have h := cell_of_row W1 q1 j #[.string ⟨#[107]⟩, .int .i64 0, .bool false, .string ⟨#[120]⟩] 28 (0, 0) hrw
    rw [show (0 + 0 * 4 + j) = j by omega]
    exact h.trans hv⟩⟩)
  have HC := Lib.hid (fun W (h : Below W1.heap.size W1 W) => ch_cells (heap_below hr2 h))
  have HGD := Lib.hid (fun (W : World) (a : Option Addr) (hg : Grs W a 2 2 exG) (hl : Wrs W (some ⟨q1, 0, none⟩) 1 1 exW) => hGD W a _ hg hl)
  have HPT := Lib.hid (fun (W : World) (a : Option Addr) (hg : Grs W a 2 2 exG) (hl : Wrs W (some ⟨q1, 0, none⟩) 1 1 exW) (hT : TabW W) => hPT W a _ hg hl hT)
  clear hGD hPT hr2 hrw
  refine wp_region_flow_tail 11 [none,none,none,none,none,none,none, some 0, some 1, some 2, some 3, some 4, some 5, some 6, some 7, some 8, some 9, some 10] (fun i => [undef,undef,undef,undef,undef,undef,undef,undef,undef,undef,undef].getD i undef) [SchV, (fun v _ => v = .agg #[.int .i64 1, .int .i64 1, .int .i64 1, .int .i64 1, .int .i64 1, .int .i64 0, .slice (some ⟨q1, 0, none⟩) 1 1]), (fun v _ => v = .int .i64 0), (fun v _ => v = .bool true), (fun v _ => v = .bool true), SchV, (fun v _ => v = .agg #[.int .i64 1, .int .i64 1, .int .i64 1, .int .i64 1, .int .i64 1, .int .i64 0, .slice (some ⟨q1, 0, none⟩) 1 1]), (fun v W => OwnB W 0 5 v X), (fun v _ => v = .string ⟨#[1, 1, 2, 1, 0, 1, 1, 107, 0, 0, 1, 120]⟩), (fun v _ => v = .bool true), (fun v _ => v = .bool true)] (fun _ => False) (by kernel_rfl) (by kernel_rfl) (by kernel_rfl) rfl rfl rfl ?_ ?_ ?_
  · intro g hg v X Y hX hY hv
    simp only [List.mem_cons, List.not_mem_nil, or_false] at hg
    rcases hg with rfl | rfl | rfl | rfl | rfl | rfl | rfl | rfl | rfl | rfl | rfl
    all_goals first
      | exact hv
      | exact hv.kept hY
  · simp only [flowOpsF, List.take_succ_cons, List.take_zero, and_true]
    refine ⟨?_,?_,?_,?_,?_,?_,?_,?_,?_,?_,?_⟩
    · intro xs W hW hn
      simp only [flowAct, zwc, zwn]
      go_wp2_with (go_at_call 12; (with_reducible refine (chschema_c _).mono ?_); rintro e9 w9 ⟨v9, rfl, hs9, hb9⟩)
      exact ⟨rfl, _, rfl, hb9, hs9, fun h => h.elim⟩
    · intro xs W hW hn
      obtain ⟨c0, c1, c2, c3, c4, c5, c6⟩ := HC.out W hW
      simp only [flowAct, zwc, zwn]
      go_wp2_with (fail)
      exact ⟨rfl, _, rfl, Below.refl _ _, rfl, fun h => h.elim⟩
    · intro xs W hW hn
      simp [flowNeeds, Region.binds] at hn
      simp only [flowAct, zwc, zwn]
      obtain ⟨hs9, hrest⟩ := hn
      obtain ⟨q9, e8, hg9⟩ := SchV.grs hs9
      simp only [e8, hrest]
      go_wp2_with (go_at_call 11; (with_reducible refine (HGD.out _ _ hg9 (HL.out.below hW)).mono ?_); rintro e9 w9 ⟨rfl, hb9⟩)
      exact ⟨rfl, _, rfl, hb9, rfl, fun h => h.elim⟩
    · intro xs W hW hn
      simp [flowNeeds, Region.binds] at hn
      simp only [flowAct, zwc, zwn]
      try simp only [hn]
      go_wp2_with (fail)
      exact ⟨rfl, _, rfl, Below.refl _ _, rfl, fun h => h.elim⟩
    · intro xs W hW hn
      simp [flowNeeds, Region.binds] at hn
      simp only [flowAct, zwc, zwn]
      try simp only [hn]
      go_wp2_with (fail)
      exact ⟨rfl, _, rfl, Below.refl _ _, rfl, fun h => h.elim⟩
    · intro xs W hW hn
      try simp [flowNeeds, Region.binds] at hn
      simp only [flowAct, zwc, zwn]
      try simp only [hn]
      go_wp2_with (go_at_call 12; (with_reducible refine (chschema_c _).mono ?_); rintro e9 w9 ⟨v9, rfl, hs9, hb9⟩)
      exact ⟨rfl, _, rfl, hb9, hs9, fun h => h.elim⟩
    · intro xs W hW hn
      obtain ⟨c0, c1, c2, c3, c4, c5, c6⟩ := HC.out W hW
      simp [flowNeeds, Region.binds] at hn
      simp only [flowAct, zwc, zwn]
      try simp only [hn]
      go_wp2_with (fail)
      exact ⟨rfl, _, rfl, Below.refl _ _, rfl, fun h => h.elim⟩
    · intro xs W hW hn
      simp [flowNeeds, Region.binds] at hn
      simp only [flowAct, zwc, zwn]
      obtain ⟨hs9, e9, hrest⟩ := hn
      obtain ⟨q9, e8, hg9⟩ := SchV.grs hs9
      simp only [e8, e9, hrest]
      go_wp2_with (go_at_call 13; (with_reducible refine (HPT.out _ _ hg9 (HL.out.below hW) (HT.out.below (HB.out.trans (hW.mono HB.out.size)))).mono ?_); rintro e9 w9 ⟨v9, rfl, ho9, hb9⟩)
      exact ⟨rfl, _, rfl, hb9, ho9.mono (Nat.zero_le _), fun h => h.elim⟩
    · intro xs W hW hn
      simp [flowNeeds, Region.binds] at hn
      simp only [flowAct, zwc, zwn]
      obtain ⟨ho, hrest⟩ := hn
      obtain ⟨a3, c3, e3, hy3⟩ := OwnB.bys ho
      have hcv := HCV.out _ _ _ _ hy3
      simp only [e3, hrest]
      go_wp2_with (fail)
      exact ⟨rfl, _, rfl, Below.refl _ _, rfl, fun h => h.elim⟩
    · intro xs W hW hn
      simp [flowNeeds, Region.binds] at hn
      simp only [flowAct, zwc, zwn]
      try simp only [hn]
      go_wp2_with (fail)
      exact ⟨rfl, _, rfl, Below.refl _ _, rfl, fun h => h.elim⟩
    · intro xs W hW hn
      simp [flowNeeds, Region.binds] at hn
      simp only [flowAct, zwc, zwn]
      try simp only [hn]
      go_wp2_with (fail)
      exact ⟨rfl, _, rfl, Below.refl _ _, rfl, fun h => h.elim⟩
  · intro xs W hW hall hfr
    clear hfr
    simp only [flowAll, and_true, Nat.zero_add, Nat.reduceAdd] at hall
    obtain ⟨-,-,-,-,-,-,-,-,-,-, e10⟩ := hall
    simp only [flowAct, zwc, zwn, List.drop_succ_cons, List.drop_zero]
    simp only [e10]
    go_wp2
    go_ret
    exact ⟨rfl, HB.out.trans (hW.mono HB.out.size)⟩
end Go.Proofs.YtjkifdjjcfempaaDoor
end

section
namespace Go.Proofs.YtjkifdjjcfempaaDoor
open Go.RowKit Go Go.Sort
set_option linter.unusedVariables false
set_option maxRecDepth 20000

/-- A world that differs in one value's own block alone. -/
structure OnlyV (v : Value) (W W' : World) : Prop where
  os : W'.os = W.os
  tape : W'.tape = W.tape
  output : W'.output = W.output
  size : W'.heap.size = W.heap.size
  rest : ∀ q, some q ≠ v.ownBlock → W'.heap[q]? = W.heap[q]?
theorem OnlyV.refl (v : Value) (W : World) : OnlyV v W W := ⟨rfl, rfl, rfl, rfl, fun _ _ => rfl⟩
theorem OnlyV.cell {g m c : Nat} {W W' : World} (h : OnlyV (.slice (some ⟨g, 0, none⟩) m c) W W') (i : Nat) (u : Value) : OnlyV (.slice (some ⟨g, 0, none⟩) m c) W (W'.setCell ⟨g, i, none⟩ u) := by
  have hb := (Below.refl 0 W').setCell (p := ⟨g, i, none⟩) (Nat.zero_le _) u
  refine ⟨hb.os.trans h.os, hb.tape.trans h.tape, hb.output.trans h.output, (World.size_setCell _ _ _).trans h.size, fun q hq => (Below.heap_setCell W' ⟨g, i, none⟩ u q (fun e => hq (by subst e; rfl))).trans (h.rest q hq)⟩
theorem OnlyV.below {v : Value} {W W' : World} (h : OnlyV v W W') {B : Nat} (hB : ∀ q, v.ownBlock = some q → B ≤ q) : Below B W W' :=
  ⟨h.os, h.tape, h.output, Nat.le_of_eq h.size.symm, fun k hk => h.rest k (fun e => by have := hB k e.symm; omega)⟩
theorem OnlyV.at {v : Value} {W W' : World} (h : OnlyV v W W') {q : Nat} {o : Obj} (ho : W.heap[q]? = some o) (hne : some q ≠ v.ownBlock) : W'.heap[q]? = some o := (h.rest q hne).trans ho
/-- A row, with its slice of cells as it stands in memory. -/
structure Rw where
  k : List UInt8
  u : Value
  cs : List Cl
def Rw.zero : Rw := ⟨[], .slice none 0 0, []⟩
def Rw.arr (r : Rw) : Array Value := #[.string (text r.k), r.u]
end Go.Proofs.YtjkifdjjcfempaaDoor
end

section
namespace Go.Proofs.YtjkifdjjcfempaaDoor
open Go.RowKit Go Go.Sort
set_option linter.unusedVariables false
set_option maxRecDepth 20000

/-- What is told of a region's values stays while memory grows, and while boxes are filled. -/
structure GSt (ty : TypeId) (G : Nat → Value → World → Prop) : Prop where
  grow : ∀ i v X Y, G i v X → Below X.heap.size X Y → G i v Y
  wrote : ∀ i v X Y q cs ds, X.heap[q]? = some (.cells ds ty (0, 0)) → Wrote q cs ty X Y → G i v X → G i v Y
/-- Where the laying of n boxes stands: m operations that tell what G says, n that make boxes, n that fill them with what operation 'sr j' told. -/
def LayG (m n : Nat) (ty : TypeId) (z : Array Value) (G : Nat → Value → World → Prop) (sr : Nat → Nat) (w0 : World) (L : Nat → Bool) (xs : Nat → Value) (w : World) : Prop :=
  Below w0.heap.size w0 w ∧ (∀ i, i < m → L i = true → G i (xs i) w) ∧
  (∀ j, j < n → L (m + j) = true → ∃ g cs, xs (m + j) = .pointer (some ⟨g, 0, none⟩) ∧ w0.heap.size ≤ g ∧ w.heap[g]? = some (.cells cs ty (0, 0)) ∧ (if L (m + n + j) = true then G (sr j) (.agg cs) w else cs = z)) ∧
  (∀ j k, j < n → k < n → j ≠ k → L (m + j) = true → L (m + k) = true → xs (m + j) ≠ xs (m + k)) ∧
  (∀ j, j < n → L (m + n + j) = true → L (m + j) = true)
section
variable {m n : Nat} {ty : TypeId} {z : Array Value} {G : Nat → Value → World → Prop} {sr : Nat → Nat} {w0 w : World} {L : Nat → Bool} {xs : Nat → Value}
theorem LayG.below (h : LayG m n ty z G sr w0 L xs w) : Below w0.heap.size w0 w := h.1
theorem LayG.set (hs : GSt ty G) (h : LayG m n ty z G sr w0 L xs w) (i : Nat) (hi : i < m) {w' : World} (hb : Below w.heap.size w w') {v : Value} (hv : G i v w') : LayG m n ty z G sr w0 (fun j => if j = i then true else L j) (fun j => if j = i then v else xs j) w' := by
  obtain ⟨h0, h1, h2, h3, h4⟩ := h
  refine ⟨h0.trans (hb.mono h0.size), fun j hj ht => ?_, fun j hj ht => ?_, fun j k hj hk => ?_, fun j hj => ?_⟩
  · by_cases e : j = i
    · subst e; simpa using hv
    · simp only [if_neg e] at ht ⊢
      exact hs.grow _ _ _ _ (h1 j hj ht) hb
  · simp only [if_neg (show ¬ m + j = i by omega), if_neg (show ¬ m + n + j = i by omega)] at ht ⊢
    obtain ⟨g, cs, e1, e2, e3, e4⟩ := h2 j hj ht
    refine ⟨g, cs, e1, e2, heap_below e3 hb, ?_⟩
    split at e4
    · rename_i hL; rw [if_pos hL]; exact hs.grow _ _ _ _ e4 hb
    · rename_i hL; rw [if_neg hL]; exact e4
  · simp only [if_neg (show ¬ m + j = i by omega), if_neg (show ¬ m + k = i by omega)]
    exact h3 j k hj hk
  · simp only [if_neg (show ¬ m + j = i by omega), if_neg (show ¬ m + n + j = i by omega)]
    exact h4 j hj
theorem LayG.alloc (hs : GSt ty G) (h : LayG m n ty z G sr w0 L xs w) (j : Nat) (hj : j < n) {k : Nat} (hk : k = m + j) (hn : L k = false) : LayG m n ty z G sr w0 (fun i => if i = k then true else L i) (fun i => if i = k then .pointer (some ⟨w.heap.size, 0, none⟩) else xs i) (w.alloc (.cells z ty)) := by
  subst hk
  obtain ⟨h0, h1, h2, h3, h4⟩ := h
  have kb := alloc_below w (.cells z ty)
  have hf : L (m + n + j) = false := by
    cases hx : L (m + n + j) with
    | false => rfl
    | true => rw [h4 j hj hx] at hn; cases hn
  have hne : ∀ i, i < n → L (m + i) = true → xs (m + i) ≠ .pointer (some ⟨w.heap.size, 0, none⟩) := fun i hi ht => by
    obtain ⟨g, cs, e1, e2, e3, e4⟩ := h2 i hi ht
    rw [e1]
    have := (Array.getElem?_eq_some_iff.1 e3).1
    intro e
    simp at e
    try omega
  refine ⟨h0.trans (kb.mono h0.size), fun i hi ht => ?_, fun i hi ht => ?_, fun i k hi hk hne2 hti htk => ?_, fun i hi ht => ?_⟩
  · simp only [if_neg (show ¬ i = m + j by omega)] at ht ⊢
    exact hs.grow _ _ _ _ (h1 i hi ht) kb
  · by_cases e : i = j
    · subst e
      simp only [if_neg (show ¬ m + n + i = m + i by omega), hf, if_pos]
      exact ⟨_, z, rfl, h0.size, heap_alloc_new w _, by simp⟩
    · simp only [if_neg (show ¬ m + i = m + j by omega), if_neg (show ¬ m + n + i = m + j by omega)] at ht ⊢
      obtain ⟨g, cs, e1, e2, e3, e4⟩ := h2 i hi ht
      refine ⟨g, cs, e1, e2, heap_below e3 kb, ?_⟩
      split at e4
      · rename_i hL; rw [if_pos hL]; exact hs.grow _ _ _ _ e4 kb
      · rename_i hL; rw [if_neg hL]; exact e4
  · by_cases e1 : i = j
    · subst e1
      simp only [if_neg (show ¬ m + k = m + i by omega), if_pos] at htk ⊢
      exact (hne k hk htk).symm
    · by_cases e2 : k = j
      · subst e2
        simp only [if_neg (show ¬ m + i = m + k by omega), if_pos] at hti ⊢
        exact hne i hi hti
      · simp only [if_neg (show ¬ m + i = m + j by omega), if_neg (show ¬ m + k = m + j by omega)] at hti htk ⊢
        exact h3 i k hi hk hne2 hti htk
  · by_cases e : i = j
    · subst e; simp
    · simp only [if_neg (show ¬ m + i = m + j by omega), if_neg (show ¬ m + n + i = m + j by omega)] at ht ⊢
      exact h4 i hi ht
end
end Go.Proofs.YtjkifdjjcfempaaDoor
end

section
namespace Go.Proofs.YtjkifdjjcfempaaDoor
open Go.RowKit Go Go.Sort
set_option linter.unusedVariables false
set_option maxRecDepth 20000

/-- Rows as they lie in memory, each with its cells. -/
def RwsAt (W : World) (a : Option Addr) (m cap : Nat) (L : List Rw) : Prop := Ls 2 Rw.arr Rw.zero W a m cap L ∧ ∀ j, j < m → ∃ a' c, (L.getD j Rw.zero).u = .slice a' (L.getD j Rw.zero).cs.length c ∧ Cls W a' (L.getD j Rw.zero).cs.length c (L.getD j Rw.zero).cs
theorem RwsAt.below {w w' : World} {a : Option Addr} {m cap : Nat} {L : List Rw} (h : RwsAt w a m cap L) (hb : Below w.heap.size w w') : RwsAt w' a m cap L :=
  ⟨h.1.below hb, fun j hj => by obtain ⟨a', c, e, hc⟩ := h.2 j hj; exact ⟨a', c, e, hc.below hb⟩⟩
theorem RwsAt.place {w : World} {a : Option Addr} {m cap : Nat} {L : List Rw} (h : RwsAt w a m cap L) {k : Nat} (hk : k < m) : ∃ b off a' n' c', a = some ⟨b, off, none⟩ ∧ (L.getD k Rw.zero).u = .slice a' n' c' ∧ n' = (L.getD k Rw.zero).cs.length ∧ Cls w a' n' c' (L.getD k Rw.zero).cs ∧
    ∀ W, Below w.heap.size w W → W.cell? ⟨b, off + k * 2, none⟩ = some (.string (text (L.getD k Rw.zero).k)) ∧ W.cell? ⟨b, off + k * 2 + 1, none⟩ = some (.slice a' n' c') := by
  obtain ⟨b, off, e, hat⟩ := h.1.at hk
  obtain ⟨a', c', eu, hc⟩ := h.2 k hk
  exact ⟨b, off, a', _, c', e, eu, rfl, hc, fun W hb => ⟨hat W hb 0 _ rfl, (hat W hb 1 (L.getD k Rw.zero).u rfl).trans (by rw [eu])⟩⟩
end Go.Proofs.YtjkifdjjcfempaaDoor
end

section
namespace Go.Proofs.YtjkifdjjcfempaaDoor
open Go.RowKit Go Go.Sort
set_option linter.unusedVariables false
set_option maxRecDepth 20000

theorem RwsAt.len {W : World} {a : Option Addr} {m cap : Nat} {L : List Rw} (h : RwsAt W a m cap L) : m ≤ cap ∧ cap ≤ 9223372036854775807 := ⟨h.1.le, h.1.max⟩
end Go.Proofs.YtjkifdjjcfempaaDoor
end

section
namespace Go.Proofs.YtjkifdjjcfempaaDoor
open Go.RowKit Go Go.Sort
set_option linter.unusedVariables false
set_option maxRecDepth 20000

deriving instance DecidableEq for Wr
def wrEq (k : List UInt8) (i : Int) (g : Bool) (v : List UInt8) (k' : List UInt8) (i' : Int) (g' : Bool) (v' : List UInt8) : Bool := decide (k = k') && ((i == i') && ((g == g') && decide (v = v')))
theorem wr_eqIn (k : List UInt8) (i : Int) (g : Bool) (v : List UInt8) (k' : List UInt8) (i' : Int) (g' : Bool) (v' : List UInt8) (W : World) : (Op.equalIn 10000 28 (.agg #[.string (text k), .int .i64 i, .bool g, .string (text v)]) (.agg #[.string (text k'), .int .i64 i', .bool g', .string (text v')])).run Tryd.prog W = .ok (wrEq k i g v k' i' g' v') W := by
  rw [run_equalIn_struct W 9999 _ _ _ Tryd.underlying28 (by kernel_rfl)]
  obtain ⟨f0, f1, f2, f3, hf, h0, h1, h2, h3, t0, t1, t2, t3, n0, n1, n2, n3⟩ : ∃ f0 f1 f2 f3, (Tryd.prog.fieldsOf 28).toList = [f0, f1, f2, f3] ∧ f0.offset = 0 ∧ f1.offset = 1 ∧ f2.offset = 2 ∧ f3.offset = 3 ∧
    f0.type = 9 ∧ f1.type = 3 ∧ f2.type = 4 ∧ f3.type = 9 ∧ f0.name ≠ "_" ∧ f1.name ≠ "_" ∧ f2.name ≠ "_" ∧ f3.name ≠ "_" := ⟨_, _, _, _, rfl, rfl, rfl, rfl, rfl, rfl, rfl, rfl, rfl, by decide, by decide, by decide, by decide⟩
  rw [hf]
  obtain ⟨xs, hxs⟩ : ∃ xs : Array Value, #[.string (text k), .int .i64 i, .bool g, .string (text v)] = xs := ⟨_, rfl⟩
  obtain ⟨ys, hys⟩ : ∃ ys : Array Value, #[.string (text k'), .int .i64 i', .bool g', .string (text v')] = ys := ⟨_, rfl⟩
  have p0 := run_part_plain (P := Tryd.prog) (e := 9) W (by kernel_rfl) (xs := xs) (off := 0) (v := .string (text k)) (by rw [← hxs]; rfl)
  have p1 := run_part_plain (P := Tryd.prog) (e := 3) W (by kernel_rfl) (xs := xs) (off := 1) (v := .int .i64 i) (by rw [← hxs]; rfl)
  have p2 := run_part_plain (P := Tryd.prog) (e := 4) W (by kernel_rfl) (xs := xs) (off := 2) (v := .bool g) (by rw [← hxs]; rfl)
  have p3 := run_part_plain (P := Tryd.prog) (e := 9) W (by kernel_rfl) (xs := xs) (off := 3) (v := .string (text v)) (by rw [← hxs]; rfl)
  have q0 := run_part_plain (P := Tryd.prog) (e := 9) W (by kernel_rfl) (xs := ys) (off := 0) (v := .string (text k')) (by rw [← hys]; rfl)
  have q1 := run_part_plain (P := Tryd.prog) (e := 3) W (by kernel_rfl) (xs := ys) (off := 1) (v := .int .i64 i') (by rw [← hys]; rfl)
  have q2 := run_part_plain (P := Tryd.prog) (e := 4) W (by kernel_rfl) (xs := ys) (off := 2) (v := .bool g') (by rw [← hys]; rfl)
  have q3 := run_part_plain (P := Tryd.prog) (e := 9) W (by kernel_rfl) (xs := ys) (off := 3) (v := .string (text v')) (by rw [← hys]; rfl)
  have hk : ((text k).toList == (text k').toList) = decide (k = k') := by rw [text_toList, text_toList, Bool.eq_iff_iff]; simp
  have hv : ((text v).toList == (text v').toList) = decide (v = v') := by rw [text_toList, text_toList, Bool.eq_iff_iff]; simp
  have e0 := run_equalIn_string W 9998 9 (text k) (text k') Tryd.underlying9
  have e1 := run_equalIn_int W 9998 3 .i64 .i64 i i' Tryd.underlying3
  have e2 := run_equalIn_bool' W 9998 4 g g' Tryd.underlying4
  have e3 := run_equalIn_string W 9998 9 (text v) (text v') Tryd.underlying9
  rw [hk] at e0
  rw [hv] at e3
  simp only [Nat.reduceAdd] at e0 e1 e2 e3
  rw [hxs, hys]
  unfold wrEq
  clear hxs hys hk hv hf
  generalize decide (k = k') = r0 at *
  generalize (i == i') = r1 at *
  generalize (g == g') = r2 at *
  generalize decide (v = v') = r3 at *
  cases r0 <;> cases r1 <;> cases r2 <;> cases r3 <;> simp [Op.eqFields, n0, n1, n2, n3, h0, h1, h2, h3, t0, t1, t2, t3, p0, q0, p1, q1, p2, q2, p3, q3, e0, e1, e2, e3, Sem.run_bind, Result.andThen_ok]
theorem wr_neb (k : List UInt8) (i : Int) (g : Bool) (v : List UInt8) (k' : List UInt8) (i' : Int) (g' : Bool) (v' : List UInt8) (r : Bool) (h : wrEq k i g v k' i' g' v' = r) (W : World) : (binOp .neq 28 (.agg #[.string (text k), .int .i64 i, .bool g, .string (text v)]) (.agg #[.string (text k'), .int .i64 i', .bool g', .string (text v')])).run Tryd.prog W = .ok (.bool (!r)) W := by
  rw [run_neq_struct, wr_eqIn, h]; rfl
theorem wr_eqg (op : BinOp) (x y : Operand) (xs ys : Array Value) (W : World) : (eqGuard op 28 x y (.agg xs) (.agg ys)).run Tryd.prog W = .ok () W := run_eqGuard_agg W op _ x y xs ys (by kernel_rfl)
theorem wrEq_iff (k : List UInt8) (i : Int) (g : Bool) (v : List UInt8) (k' : List UInt8) (i' : Int) (g' : Bool) (v' : List UInt8) : wrEq k i g v k' i' g' v' = true ↔ (⟨k, i, g, v⟩ : Wr) = ⟨k', i', g', v'⟩ := by
  unfold wrEq
  simp only [Bool.and_eq_true, decide_eq_true_eq, beq_iff_eq, Wr.mk.injEq]
theorem wr_list {l m : List Wr} (hl : l.length = m.length) (h : ∀ j, j < l.length → l.getD j Wr.zero = m.getD j Wr.zero) : l = m := by
  apply List.ext_getElem hl
  intro j h1 h2
  have := h j h1
  rw [List.getD_eq_getElem?_getD, List.getD_eq_getElem?_getD, List.getElem?_eq_getElem h1, List.getElem?_eq_getElem h2] at this
  exact this

set_option maxRecDepth 100000 in
set_option maxHeartbeats 6400000 in
theorem rwrites_c {w : World} {x2 y2 : Option Addr} {m cap2 m' cap3 : Nat} {la lb : List Wr} (ha : Wrs w x2 m cap2 la) (hb : Wrs w y2 m' cap3 lb) : Calls Tryd.prog 8 #[.slice x2 m cap2, .slice y2 m' cap3] w (Tells (.bool (decide (la = lb))) w) := by
  have hal := ha.len
  have hbl := hb.len
  have hale := ha.le
  have hame := ha.max
  have hble := hb.le
  have hbme := hb.max
  have HA := Lib.hid ha
  have HB := Lib.hid hb
  have HAL := Lib.hid hal
  have HBL := Lib.hid hbl
  clear ha hb hal hbl
  obtain ⟨R, hR⟩ : ∃ z, decide (la = lb) = z := ⟨_, rfl⟩
  rw [hR]
  have HR := Lib.hid hR
  clear hR
  by_cases hmm : m = m'
  · subst hmm
    have hmi : (m != m) = false := by simp
    go_enter Tryd.func8, Tryd.ntmps8
    go_wp2
    go_loopw [5] (fun i wr => ∃ k : Nat, k ≤ m ∧ i = .int .i64 (k : Int) ∧ (∀ j, j < k → la.getD j Wr.zero = lb.getD j Wr.zero) ∧ Below w.heap.size w wr) (fun i _ => m - (intOf i).toNat)
    case atStart => exact ⟨0, by omega, rfl, fun j hj => by omega, Below.refl _ _⟩
    case round =>
      obtain ⟨k, hk, rfl, hs, hb⟩ := hrel
      have HS := Lib.hid hs
      have HBx := Lib.hid hb
      clear hs hb
      by_cases hlt : k < m
      · have hki : (k : Int) < (m : Int) := by omega
        have hkc : (k : Int) < (cap2 : Int) := by omega
        have hkd : (k : Int) < (cap3 : Int) := by omega
        obtain ⟨ba, offa, rfl, hat⟩ := HA.out.place hlt
        obtain ⟨bb, offb, rfl, hat2⟩ := HB.out.place hlt
        obtain ⟨y, hy⟩ : ∃ y, la.getD k Wr.zero = y := ⟨_, rfl⟩
        obtain ⟨z, hz⟩ : ∃ z, lb.getD k Wr.zero = z := ⟨_, rfl⟩
        rw [hy] at hat
        rw [hz] at hat2
        obtain ⟨kx, ix, gx, vx⟩ := y
        obtain ⟨ky, iy, gy, vy⟩ := z
        simp only at hat hat2
        have HPW := Lib.hid (fun W (h : Below wr.heap.size wr W) => hat W (HBx.out.trans (h.mono HBx.out.size)))
        have HQW := Lib.hid (fun W (h : Below wr.heap.size wr W) => hat2 W (HBx.out.trans (h.mono HBx.out.size)))
        have HY := Lib.hid hy
        have HZ := Lib.hid hz
        have hiff := wrEq_iff kx ix gx vx ky iy gy vy
        have hne := wr_neb kx ix gx vx ky iy gy vy
        obtain ⟨E, hE⟩ : ∃ z, wrEq kx ix gx vx ky iy gy vy = z := ⟨_, rfl⟩
        rw [hE] at hiff
        have hnw := hne E hE
        have HIF := Lib.hid hiff
        have HNE := Lib.hid hnw
        have HEG := Lib.hid wr_eqg
        clear hat hat2 hy hz hiff hne hnw hE
        go_upto_region 6 with (fail)
        refine wp_region_flow [none,none,none,none,none,none,none,none,none,none,none,none,none,none,none,none,none, some 0, some 1, some 2, some 3, some 4, some 5, some 6, some 7, some 8] (fun i => [u17, u18, u19, u20, u21, u22, u23, u24, u25].getD i undef) [(fun v _ => v = .slice (some ⟨ba, offa, none⟩) m cap2), (fun v _ => v = .int .i64 (k : Int)), (fun v _ => v = .pointer (some ⟨ba, offa + k * 4, none⟩)), (fun v _ => v = .agg #[.string (text kx), .int .i64 ix, .bool gx, .string (text vx)]), (fun v _ => v = .slice (some ⟨bb, offb, none⟩) m cap3), (fun v _ => v = .int .i64 (k : Int)), (fun v _ => v = .pointer (some ⟨bb, offb + k * 4, none⟩)), (fun v _ => v = .agg #[.string (text ky), .int .i64 iy, .bool gy, .string (text vy)]), (fun v _ => v = .bool (!E))] (by kernel_rfl) (by kernel_rfl) rfl rfl rfl ?_ ?_ ?_
        · intro g hg v X Y hX hY hv
          simp only [List.mem_cons, List.not_mem_nil, or_false] at hg
          rcases hg with rfl | rfl | rfl | rfl | rfl | rfl | rfl | rfl | rfl
          all_goals first
            | exact hv
            | exact hv.kept hY
        · simp only [flowOps, and_true]
          refine ⟨?_,?_,?_,?_,?_,?_,?_,?_,?_⟩
          · intro xs W hW hn
            simp only [flowAct, zwc, zwn]
            go_wp2_with (fail)
            exact ⟨rfl, _, rfl, Below.refl _ _, rfl⟩
          · intro xs W hW hn
            simp only [flowAct, zwc, zwn]
            go_wp2_with (fail)
            exact ⟨rfl, _, rfl, Below.refl _ _, rfl⟩
          · intro xs W hW hn
            simp [flowNeeds, Region.binds] at hn
            simp only [flowAct, zwc, zwn]
            try simp only [hn]
            go_wp2_with (fail)
            exact ⟨rfl, _, rfl, Below.refl _ _, rfl⟩
          · intro xs W hW hn
            obtain ⟨p0, p1, p2, p3⟩ := HPW.out W hW
            simp [flowNeeds, Region.binds] at hn
            simp only [flowAct, zwc, zwn]
            try simp only [hn]
            go_wp2_with (fail)
            exact ⟨rfl, _, rfl, Below.refl _ _, rfl⟩
          · intro xs W hW hn
            simp only [flowAct, zwc, zwn]
            go_wp2_with (fail)
            exact ⟨rfl, _, rfl, Below.refl _ _, rfl⟩
          · intro xs W hW hn
            simp only [flowAct, zwc, zwn]
            go_wp2_with (fail)
            exact ⟨rfl, _, rfl, Below.refl _ _, rfl⟩
          · intro xs W hW hn
            simp [flowNeeds, Region.binds] at hn
            simp only [flowAct, zwc, zwn]
            try simp only [hn]
            go_wp2_with (fail)
            exact ⟨rfl, _, rfl, Below.refl _ _, rfl⟩
          · intro xs W hW hn
            obtain ⟨q0, q1, q2, q3⟩ := HQW.out W hW
            simp [flowNeeds, Region.binds] at hn
            simp only [flowAct, zwc, zwn]
            try simp only [hn]
            go_wp2_with (fail)
            exact ⟨rfl, _, rfl, Below.refl _ _, rfl⟩
          · intro xs W hW hn
            have hne := HNE.out
            have heg := HEG.out
            simp [flowNeeds, Region.binds] at hn
            simp only [flowAct, zwc, zwn]
            try simp only [hn]
            go_wp2_with (fail)
            exact ⟨rfl, _, rfl, Below.refl _ _, rfl⟩
        · intro xs W hW hall
          simp only [flowAll, and_true, Nat.zero_add, Nat.reduceAdd] at hall
          obtain ⟨-,-,-,-,-,-,-,-, eL⟩ := hall
          simp only [flowAct, zwc, zwn]
          simp only [eL]
          have HBy := Lib.hid (HBx.out.trans (hW.mono HBx.out.size))
          clear eL hW
          cases E with
          | true =>
            have HSN := Lib.hid (show ∀ j, j < k + 1 → la.getD j Wr.zero = lb.getD j Wr.zero from fun j hj => by
              by_cases h : j < k
              · exact HS.out j h
              · obtain rfl : j = k := by omega
                rw [HY.out, HZ.out]; exact HIF.out.1 rfl)
            go_wp2
            go_roundw
            case rel => exact ⟨k + 1, by omega, by go_num, HSN.out, HBy.out⟩
            case measure => simp [intOf]; omega
          | false =>
            have hr : R = false := by
              rw [← HR.out, decide_eq_false_iff_not]
              intro e
              have h := HIF.out.2 (by rw [← HY.out, ← HZ.out, e])
              cases h
            subst hr
            go_wp2
            go_ret
            exact ⟨rfl, HBy.out⟩
      · obtain rfl : m = k := by omega
        have hr : R = true := by
          rw [← HR.out, decide_eq_true_eq]
          exact wr_list (by rw [HAL.out, HBL.out]) (fun j hj => HS.out j (by rw [HAL.out] at hj; exact hj))
        subst hr
        go_wp2
        go_ret
        exact ⟨rfl, HBx.out⟩
  · have hmi : ((m : Int) != (m' : Int)) = true := by simp; omega
    have hr : R = false := by
      rw [← HR.out, decide_eq_false_iff_not]
      intro e
      have := HAL.out
      rw [e, HBL.out] at this
      exact hmm this.symm
    subst hr
    go_enter Tryd.func8, Tryd.ntmps8
    go_wp2
    go_ret
    exact ⟨rfl, Below.refl _ _⟩
end Go.Proofs.YtjkifdjjcfempaaDoor
end

section
namespace Go.Proofs.YtjkifdjjcfempaaDoor
open Go.RowKit Go Go.Sort
set_option linter.unusedVariables false
set_option maxRecDepth 20000

theorem pl_set {W : World} {q : Nat} {x0 x1 : Value} (h : W.heap[q]? = some (.cells #[x0, x1] 47 (0, 0))) (a b : Value) : ((W.setCell ⟨q, 0, none⟩ a).setCell ⟨q, 1, none⟩ b).heap[q]? = some (.cells #[a, b] 47 (0, 0)) :=
  (heap_setCell_same _ q 1 _ _ _ (heap_setCell_same W q 0 _ _ _ h)).trans rfl
set_option maxHeartbeats 1600000 in
theorem placeof_c (kx : List UInt8) (ix : Int) (gx : Bool) (vx : List UInt8) (w : World) : Calls Tryd.prog 14 #[.agg #[.string (text kx), .int .i64 ix, .bool gx, .string (text vx)]] w (Tells (.agg #[.string (text kx), .int .i64 ix]) w) := by
  have hr := heap_alloc_new w (.cells #[.string (text kx), .int .i64 ix, .bool gx, .string (text vx)] 28)
  have hb := alloc_below w (.cells #[.string (text kx), .int .i64 ix, .bool gx, .string (text vx)] 28)
  have hs := World.size_alloc w (.cells #[.string (text kx), .int .i64 ix, .bool gx, .string (text vx)] 28)
  go_enter Tryd.func14, Tryd.ntmps14
  go_upto_region 1 with (fail)
  obtain ⟨B, hB⟩ : ∃ q, w.heap.size = q := ⟨_, rfl⟩
  have HBe := Lib.hid hB
  rw [hB] at hr hs
  try rw [hB]
  clear hB
  generalize w.alloc (.cells #[.string (text kx), .int .i64 ix, .bool gx, .string (text vx)] 28) = W1 at *
  have hr2 := heap_alloc_new W1 (.cells #[.string ⟨#[]⟩, .int .i64 0] 47)
  have hb2 := alloc_below W1 (.cells #[.string ⟨#[]⟩, .int .i64 0] 47)
  rw [hs] at hr2
  try rw [hs]
  have HB2 := Lib.hid (hb.trans (hb2.mono hb.size))
  obtain ⟨p0, p1, p2, p3⟩ := wr_cells (heap_below hr hb2)
  clear hr hs hb hb2
  generalize W1.alloc (.cells #[.string ⟨#[]⟩, .int .i64 0] 47) = W2 at *
  obtain ⟨c0, c1⟩ := pair_cells hr2
  have z0 := fun i => frozen_of_row W2 (B + 1) i _ _ hr2
  have HS := Lib.hid (pl_set hr2 (.string (text kx)) (.int .i64 ix))
  clear hr2
  go_wp2
  refine bodyPost_ret (results_cell_row rfl _ _ (B + 1) 47 _ (0, 0) _ rfl HS.out Tryd.underlying47 rfl (by kernel_rfl)) rfl ⟨rfl, HB2.out.trans (Only.below ((Only.set W2 ⟨B + 1, 0, none⟩ _).trans (Only.set _ ⟨B + 1, 1, none⟩ _)) (by show _ ≤ B + 1; rw [← HBe.out]; omega) HB2.out.size)⟩
end Go.Proofs.YtjkifdjjcfempaaDoor
end

section
namespace Go.Proofs.YtjkifdjjcfempaaDoor
open Go.RowKit Go Go.Sort Go.Maps Go.WideMaps
set_option linter.unusedVariables false
set_option maxRecDepth 20000

theorem place_law : Keyed Tryd.prog 47 := Keyed.of_law (deep_law (m := 3) (by omega) (by kernel_rfl) (by kernel_rfl) (by kernel_rfl))
def plL (k : List UInt8) (i : Int) : Lit := .string (keyBytes [.string k, .int .i64 i])
theorem place_lits (n : Nat) (k : List UInt8) (i : Int) (hk : k.length ≤ maxLen) (hi : IsI64 i) : Tryd.prog.keyLits (n + 2) 47 [.string (text k), .int .i64 i] = some [.string k, .int .i64 i] := by
  obtain ⟨f0, f1, hf, h0, h1, t0, t1, n0, n1⟩ : ∃ f0 f1, (Tryd.prog.fieldsOf 47).toList = [f0, f1] ∧ f0.offset = 0 ∧ f1.offset = 1 ∧ f0.type = 9 ∧ f1.type = 3 ∧ f0.name ≠ "_" ∧ f1.name ≠ "_" := ⟨_, _, rfl, rfl, rfl, rfl, rfl, by decide, by decide⟩
  obtain ⟨fs, hu⟩ : ∃ fs, Tryd.prog.underlying 47 = some (.struct fs) := ⟨_, Tryd.underlying47⟩
  have hfs : fs.toList = [f0, f1] := by rw [← hf]; unfold Program.fieldsOf; rw [hu]
  have hc : Tryd.prog.cellsOf 47 = 2 := by kernel_rfl
  have h9 : Tryd.prog.cellsOf 9 = 1 := by kernel_rfl
  have h3 : Tryd.prog.cellsOf 3 = 1 := by kernel_rfl
  have ha : fs.all (fun f => f.name != "_") = true := by
    rw [← Array.all_toList, hfs]
    simp [n0, n1]
  have hw : (Lit.int .i64 i).wf = true := by
    unfold IsI64 at hi
    simp [Lit.wf, IntKind.min, IntKind.max, IntKind.signed, IntKind.bits]
    omega
  unfold Program.keyLits
  rw [hu]
  simp only [hc, ha, List.length_cons, List.length_nil]
  rw [if_pos ⟨by first | rfl | trivial, by first | rfl | trivial⟩, hfs]
  simp only [List.mapM_cons, List.mapM_nil, h0, h1, t0, t1, h9, h3, List.drop_zero, List.drop_succ_cons, List.take_succ_cons, List.take_zero]
  have e9 : Tryd.prog.keyLits (n + 1) 9 [.string (text k)] = some [.string k] := by
    unfold Program.keyLits
    rw [Tryd.underlying9]
    simp only
    rw [if_pos (by rw [text_size]; exact hk)]
    congr 3
    try exact text_toList k
  have e3 : Tryd.prog.keyLits (n + 1) 3 [.int .i64 i] = some [.int .i64 i] := by
    unfold Program.keyLits
    rw [Tryd.underlying3]
    simp only
    rw [if_pos ⟨by first | rfl | trivial, hw⟩]
  rw [e9, e3]
  rfl
theorem place_key (k : List UInt8) (i : Int) (hk : k.length ≤ maxLen) (hi : IsI64 i) : keyOf Tryd.prog 47 (.agg #[.string (text k), .int .i64 i]) = some (plL k i) := by
  obtain ⟨fs, hu⟩ : ∃ fs, Tryd.prog.underlying 47 = some (.struct fs) := ⟨_, Tryd.underlying47⟩
  have h1 : Tryd.prog.keyType 47 = true := by kernel_rfl
  have hc : Tryd.prog.cellsOf 47 = 2 := by kernel_rfl
  have hN : ∃ N, Tryd.prog.types.size = N + 1 := by
    have : 0 < Tryd.prog.types.size := of_decide_eq_true (by kernel_rfl)
    exact ⟨Tryd.prog.types.size - 1, by omega⟩
  obtain ⟨N, hN⟩ := hN
  have hl := place_lits N k i hk hi
  unfold keyOf
  rw [hu]
  simp only
  have hfm : Value.formed Tryd.prog 47 (.agg #[.string (text k), .int .i64 i]) = true := by
    unfold Value.formed
    rw [hu]
    simp [hc]
  rw [h1, hfm, hN]
  simp only [Bool.and_self, if_true]
  have hcl : (Value.agg #[.string (text k), .int .i64 i]).cells.toList = [.string (text k), .int .i64 i] := rfl
  rw [hcl, hl]
  rfl
theorem place_inj {k k' : List UInt8} {i i' : Int} (hk : k.length ≤ maxLen) (hi : IsI64 i) (hk' : k'.length ≤ maxLen) (hi' : IsI64 i') (h : plL k i = plL k' i') : k = k' ∧ i = i' := by
  have h2 := place_law.inj (place_key k i hk hi) ((place_key k' i' hk' hi').trans (by rw [h]))
  injection h2 with h2
  have e0 := congrArg (fun a : Array Value => a[0]?) h2
  have e1 := congrArg (fun a : Array Value => a[1]?) h2
  simp at e0 e1
  refine ⟨?_, e1⟩
  have h3 := congrArg ByteArray.toList e0
  rwa [text_toList, text_toList] at h3
/-- What a write in a map is read as. -/
def wrElem (v : Value) : Option (DataW Unit × List MemPlace) := match v with
  | .agg cs => (match cs.toList with
    | [.string k, .int .i64 i, .bool g, .string t] => some (.agg [.lit (.string k.toList), .lit (.int .i64 i), .lit (.bool g), .lit (.string t.toList)], [])
    | _ => none)
  | _ => none
def wrD (c : Wr) : DataW Unit := .agg [.lit (.string c.k), .lit (.int .i64 c.i), .lit (.bool c.g), .lit (.string c.v)]
theorem wrElem_mk (c : Wr) : wrElem (.agg c.arr) = some (wrD c, []) := by
  simp [wrElem, Wr.arr, wrD, text_toList]
end Go.Proofs.YtjkifdjjcfempaaDoor
end

section
namespace Go.Proofs.YtjkifdjjcfempaaDoor
open Go.RowKit Go Go.Sort
set_option linter.unusedVariables false
set_option maxRecDepth 20000

/-- Some draws, and some blocks more. -/
def Gr (w w' : World) : Prop := ∃ q os, w' = grow (w.drewN q) os
theorem Gr.refl (w : World) : Gr w w := ⟨0, #[], by rw [grow_empty]; rfl⟩
theorem Gr.drew (w : World) : Gr w { w with drawn := w.drawn + 1 } := ⟨1, #[], by rw [grow_empty]; rfl⟩
theorem Gr.alloc (w : World) (o : Obj) : Gr w (w.alloc o) := ⟨0, #[o], by rw [alloc_eq_grow]; rfl⟩
theorem Gr.trans {a b c : World} (h1 : Gr a b) (h2 : Gr b c) : Gr a c := by
  obtain ⟨q, os, rfl⟩ := h1
  obtain ⟨q', os', rfl⟩ := h2
  exact ⟨q + q', os ++ os', by rw [← grow_grow, ← World.drewN_drewN]; rfl⟩
theorem Gr.below {a b : World} (h : Gr a b) : Below a.heap.size a b := by
  obtain ⟨q, os, rfl⟩ := h
  exact ⟨rfl, rfl, rfl, by simp [grow], fun k hk => by simp [grow, World.drewN, Array.getElem?_append_left hk]⟩
set_option maxHeartbeats 3200000 in
theorem order_g (k : List UInt8) (i : Int) (g : Bool) (v : List UInt8) (k' : List UInt8) (i' : Int) (g' : Bool) (v' : List UInt8) (w : World) : Calls Tryd.prog 17 #[.agg #[.string (text k), .int .i64 i, .bool g, .string (text v)], .agg #[.string (text k'), .int .i64 i', .bool g', .string (text v')]] w (fun e w9 => e = .returned (.int .i64 (ordS ⟨k, i, g, v⟩ ⟨k', i', g', v'⟩)) ∧ Gr w w9) := by
  have hp := heap_below (heap_alloc_new w (.cells #[.string (text k), .int .i64 i, .bool g, .string (text v)] 28)) (alloc_below (w.alloc (.cells #[.string (text k), .int .i64 i, .bool g, .string (text v)] 28)) (.cells #[.string (text k'), .int .i64 i', .bool g', .string (text v')] 28))
  have hq := heap_alloc_new (w.alloc (.cells #[.string (text k), .int .i64 i, .bool g, .string (text v)] 28)) (.cells #[.string (text k'), .int .i64 i', .bool g', .string (text v')] 28)
  simp only [World.size_alloc] at hq
  have HB := Lib.hid ((Gr.alloc w (.cells #[.string (text k), .int .i64 i, .bool g, .string (text v)] 28)).trans (Gr.alloc _ (.cells #[.string (text k'), .int .i64 i', .bool g', .string (text v')] 28)))
  have HR := Lib.hid (ord_or ⟨k, i, g, v⟩ ⟨k', i', g', v'⟩)
  have h1 := fun W => cmps_c (text k) (text k') W
  have h2 := fun W => cmpi_c i i' W
  simp only [text_toList] at h1 HR
  obtain ⟨X1, hX1⟩ : ∃ z, cmp3 (Op.bytesLess k k') (!(k == k')) = z := ⟨_, rfl⟩
  obtain ⟨X2, hX2⟩ : ∃ z, cmp3 (decide (i < i')) (decide (i' < i)) = z := ⟨_, rfl⟩
  rw [hX1, hX2] at HR
  simp only [hX1] at h1
  simp only [hX2] at h2
  have h3 := fun (v : Value) (W : World) (h : Ints2 X1 X2 v W) => cmpor_c X1 X2 v h
  obtain ⟨R, hR⟩ : ∃ z, or2 X1 X2 = z := ⟨_, rfl⟩
  simp only [hR] at h3 HR
  obtain ⟨u, hu⟩ : ∃ u, text k = u := ⟨_, rfl⟩
  obtain ⟨u', hu'⟩ : ∃ u, text k' = u := ⟨_, rfl⟩
  simp only [hu, hu'] at h1 hp hq HB ⊢
  have H1 := Lib.hid h1
  have H2 := Lib.hid h2
  have HOR := Lib.hid h3
  have HA0 := Lib.hid (fun W (h : Below (w.heap.size + 1 + 1) ((w.alloc (.cells #[.string u, .int .i64 i, .bool g, .string (text v)] 28)).alloc (.cells #[.string u', .int .i64 i', .bool g', .string (text v')] 28)) W) => (heap_below hp (by simpa using h)))
  have HC0 := Lib.hid (fun W (h : Below (w.heap.size + 1 + 1) ((w.alloc (.cells #[.string u, .int .i64 i, .bool g, .string (text v)] 28)).alloc (.cells #[.string u', .int .i64 i', .bool g', .string (text v')] 28)) W) => (heap_below hq (by simpa using h)))
  clear hp hq h1 h2 h3 hX1 hX2 hR hu hu'
  go_enter Tryd.func17, Tryd.ntmps17
  go_upto_region 1 with (fail)
  obtain ⟨B, hB⟩ : ∃ q, w.heap.size = q := ⟨_, rfl⟩
  have HW1 : ((w.alloc (.cells #[.string u, .int .i64 i, .bool g, .string (text v)] 28)).alloc (.cells #[.string u', .int .i64 i', .bool g', .string (text v')] 28)).heap.size = B + 1 + 1 := by simp [hB]
  have HBe := Lib.hid hB
  rw [hB] at HA0 HC0 ⊢
  clear hB
  generalize (w.alloc (.cells #[.string u, .int .i64 i, .bool g, .string (text v)] 28)).alloc (.cells #[.string u', .int .i64 i', .bool g', .string (text v')] 28) = W1 at *
  have HA := Lib.hid (fun W (h : Below W1.heap.size W1 W) => by
    obtain ⟨c0, c1, -⟩ := wr_cells' (HA0.out W (by rwa [HW1] at h))
    exact And.intro c0 c1)
  have HC := Lib.hid (fun W (h : Below W1.heap.size W1 W) => by
    obtain ⟨c0, c1, -⟩ := wr_cells' (HC0.out W (by rwa [HW1] at h))
    exact And.intro c0 c1)
  clear HA0 HC0 HW1
  refine wp_region_flowR Gr [none,none,none,none, some 12, some 0, some 1, some 2, some 3, some 4, some 5, some 6, some 7, some 8, some 9, some 10, some 11] (fun i => [undef,undef,undef,undef,undef,undef,undef,undef,undef,undef,undef,undef, .int .i64 0].getD i undef) [(fun v _ => v = .pointer (some ⟨B, 0, none⟩)), (fun v _ => v = .string u), (fun v _ => v = .pointer (some ⟨B + 1, 0, none⟩)), (fun v _ => v = .string u'), (fun v _ => v = .int .i64 X1), (fun v _ => v = .pointer (some ⟨B, 1, none⟩)), (fun v _ => v = .int .i64 i), (fun v _ => v = .pointer (some ⟨B + 1, 1, none⟩)), (fun v _ => v = .int .i64 i'), (fun v _ => v = .int .i64 X2), (Ints2 X1 X2), (fun v _ => v = .int .i64 R), (fun v _ => v = .int .i64 R)] (by kernel_rfl) (by kernel_rfl) rfl rfl rfl (fun _ _ _ h1 h2 => Gr.trans h1 h2) (Gr.drew _) ?_ ?_ ?_
  · intro g hg v X Y hX hY hv
    simp only [List.mem_cons, List.not_mem_nil, or_false] at hg
    rcases hg with rfl | rfl | rfl | rfl | rfl | rfl | rfl | rfl | rfl | rfl | rfl | rfl | rfl
    all_goals first
      | exact hv
      | exact hv.kept hY.below
  · simp only [flowOpsR, and_true]
    refine ⟨?_,?_,?_,?_,?_,?_,?_,?_,?_,?_,?_,?_,?_⟩
    · intro xs W hW hn
      simp only [flowAct, zwc, zwn]
      go_wp2_with (fail)
      exact ⟨rfl, _, rfl, Gr.refl _, rfl⟩
    · intro xs W hW hn
      have hc := HA.out W hW.below
      obtain ⟨c0, c1⟩ := hc
      simp [flowNeeds, Region.binds] at hn
      simp only [flowAct, zwc, zwn]
      try simp only [hn]
      go_wp2_with (fail)
      exact ⟨rfl, _, rfl, Gr.refl _, rfl⟩
    · intro xs W hW hn
      simp only [flowAct, zwc, zwn]
      go_wp2_with (fail)
      exact ⟨rfl, _, rfl, Gr.refl _, rfl⟩
    · intro xs W hW hn
      have hc := HC.out W hW.below
      obtain ⟨c0, c1⟩ := hc
      simp [flowNeeds, Region.binds] at hn
      simp only [flowAct, zwc, zwn]
      try simp only [hn]
      go_wp2_with (fail)
      exact ⟨rfl, _, rfl, Gr.refl _, rfl⟩
    · intro xs W hW hn
      simp [flowNeeds, Region.binds] at hn
      simp only [flowAct, zwc, zwn]
      try simp only [hn]
      go_wp2_with (go_at_call 28; (with_reducible refine (H1.out _).mono ?_); rintro e9 w9 ⟨rfl, rfl⟩)
      exact ⟨rfl, _, rfl, Gr.refl _, rfl⟩
    · intro xs W hW hn
      simp only [flowAct, zwc, zwn]
      go_wp2_with (fail)
      exact ⟨rfl, _, rfl, Gr.refl _, rfl⟩
    · intro xs W hW hn
      have hc := HA.out W hW.below
      obtain ⟨c0, c1⟩ := hc
      simp [flowNeeds, Region.binds] at hn
      simp only [flowAct, zwc, zwn]
      try simp only [hn]
      go_wp2_with (fail)
      exact ⟨rfl, _, rfl, Gr.refl _, rfl⟩
    · intro xs W hW hn
      simp only [flowAct, zwc, zwn]
      go_wp2_with (fail)
      exact ⟨rfl, _, rfl, Gr.refl _, rfl⟩
    · intro xs W hW hn
      have hc := HC.out W hW.below
      obtain ⟨c0, c1⟩ := hc
      simp [flowNeeds, Region.binds] at hn
      simp only [flowAct, zwc, zwn]
      try simp only [hn]
      go_wp2_with (fail)
      exact ⟨rfl, _, rfl, Gr.refl _, rfl⟩
    · intro xs W hW hn
      simp [flowNeeds, Region.binds] at hn
      simp only [flowAct, zwc, zwn]
      try simp only [hn]
      go_wp2_with (go_at_call 29; (with_reducible refine (H2.out _).mono ?_); rintro e9 w9 ⟨rfl, rfl⟩)
      exact ⟨rfl, _, rfl, Gr.refl _, rfl⟩
    · intro xs W hW hn
      simp [flowNeeds, Region.binds] at hn
      simp only [flowAct, zwc, zwn]
      try simp only [hn]
      go_wp2_with (fail)
      exact ⟨rfl, _, rfl, Gr.alloc _ _, ⟨_, _, rfl, heap_alloc_new _ _⟩⟩
    · intro xs W hW hn
      simp [flowNeeds, Region.binds] at hn
      obtain ⟨hv9, h9⟩ := hn
      simp only [flowAct, zwc, zwn]
      try simp only [h9]
      go_wp2_with (go_at_call 27; (with_reducible refine (HOR.out _ _ hv9).mono ?_); rintro e9 w9 ⟨rfl, rfl⟩)
      exact ⟨rfl, _, rfl, Gr.refl _, rfl⟩
    · intro xs W hW hn
      simp [flowNeeds, Region.binds] at hn
      simp only [flowAct, zwc, zwn]
      try simp only [hn]
      go_wp2_with (fail)
      exact ⟨rfl, _, rfl, Gr.refl _, rfl⟩
  · intro xs W hW hall
    simp only [flowAll, and_true, Nat.zero_add, Nat.reduceAdd] at hall
    obtain ⟨-,-,-,-,-,-,-,-,-,-,-,-, e12⟩ := hall
    simp only [flowAct, zwc, zwn]
    simp only [e12]
    go_wp2
    go_ret
    exact ⟨by rw [HR.out]; rfl, HB.out.trans hW⟩
end Go.Proofs.YtjkifdjjcfempaaDoor
end

section
namespace Go.Proofs.YtjkifdjjcfempaaDoor
open Go.RowKit Go Go.Sort Go.Shelf
set_option linter.unusedVariables false
set_option maxRecDepth 20000

theorem lt_ord (a b : Wr) : ltOf ordS a b = aheadS a b := ord_neg a b
theorem swo_ord : SWO (ltOf ordS) where
  irrefl x := by rw [lt_ord]; exact ahead_irr x
  trans x y z h1 h2 := by rw [lt_ord] at *; exact ahead_tr h1 h2
  ntrans x y z h1 h2 := by
    rw [lt_ord] at *
    cases h : aheadS x z with
    | false => rfl
    | true =>
      cases h3 : aheadS y x with
      | true => rw [ahead_tr h3 h] at h2; cases h2
      | false =>
        have hp := ahead_tot h1 h3
        rw [ahead_lex, hp, ← ahead_lex, h2] at h
        cases h
instance : Inhabited Wr := ⟨Wr.zero⟩
def encW (c : Wr) : List Value := [.string (text c.k), .int .i64 c.i, .bool c.g, .string (text c.v)]
theorem order_lays (blk off size : Nat) (w : World) : CmpLays Tryd.prog 17 #[] encW 4 ordS blk off size w :=
  fun _ _ _ _ x y => by
    obtain ⟨k, i, g, v⟩ := x
    obtain ⟨k', i', g', v'⟩ := y
    exact order_g k i g v k' i' g' v' _
end Go.Proofs.YtjkifdjjcfempaaDoor
end

section
namespace Go.Proofs.YtjkifdjjcfempaaDoor
open Go.RowKit Go Go.Sort Go.Deep
set_option linter.unusedVariables false
set_option maxRecDepth 20000

theorem choose_at {α : Type} {n : Nat} {p : Nat → α → Prop} (h : ∀ i, i < n → ∃ q, p i q) : ∃ V : Nat → Option α, ∀ i, i < n → ∃ q, V i = some q ∧ p i q := by
  induction n with
  | zero => exact ⟨fun _ => none, fun i hi => by omega⟩
  | succ n ih =>
    obtain ⟨V, hV⟩ := ih fun i hi => h i (by omega)
    obtain ⟨q, hq⟩ := h n (by omega)
    refine ⟨fun i => if i = n then some q else V i, fun i hi => ?_⟩
    by_cases e : i = n
    · subst e; exact ⟨q, by simp, hq⟩
    · simp only [if_neg e]; exact hV i (by omega)
theorem wr_trod {H : Type} {enc : TypeId × Value → H} {W : World} {base : Nat} {sp held : Bool} {fuel : Nat} {cs : List Value} {x : DataW H × List MemPlace} (h : DataW.trod enc Tryd.prog W base (fun _ => sp) held fuel 28 cs = some x) :
    ∃ (k : List UInt8) (i : Int) (g : Bool) (v : List UInt8), cs = [.string (text k), .int .i64 i, .bool g, .string (text v)] ∧ k.length ≤ maxLen ∧ IsI64 i ∧ v.length ≤ maxLen := by
  obtain ⟨xs, m, _, rfl, hl, hlen, hf⟩ := DataW.trod_struct Tryd.underlying28 h
  have h6 : Tryd.prog.cellsOf 28 = 4 := by kernel_rfl
  have h3 : Tryd.prog.cellsOf 3 = 1 := by kernel_rfl
  have h4 : Tryd.prog.cellsOf 4 = 1 := by kernel_rfl
  have h9 : Tryd.prog.cellsOf 9 = 1 := by kernel_rfl
  rw [h6] at hl
  match xs, hlen with
  | [y0, y1, y2, y3], _ =>
    have i0 := hf 0 _ rfl
    have i1 := hf 1 _ rfl
    have i2 := hf 2 _ rfl
    have i3 := hf 3 _ rfl
    match cs, hl with
    | [c0, c1, c2, c3], _ =>
      have j0 : DataW.trod enc Tryd.prog W base (fun _ => sp) held m 9 (([c0, c1, c2, c3].drop 0).take (Tryd.prog.cellsOf 9)) = some y0 := i0
      have j1 : DataW.trod enc Tryd.prog W base (fun _ => sp) held m 3 (([c0, c1, c2, c3].drop 1).take (Tryd.prog.cellsOf 3)) = some y1 := i1
      have j2 : DataW.trod enc Tryd.prog W base (fun _ => sp) held m 4 (([c0, c1, c2, c3].drop 2).take (Tryd.prog.cellsOf 4)) = some y2 := i2
      have j3 : DataW.trod enc Tryd.prog W base (fun _ => sp) held m 9 (([c0, c1, c2, c3].drop 3).take (Tryd.prog.cellsOf 9)) = some y3 := i3
      rw [h9] at j0 j3
      rw [h3] at j1
      rw [h4] at j2
      obtain ⟨k, e0, _, wk⟩ := DataW.trod_string Tryd.underlying9 j0
      obtain ⟨i, e1, _, wi⟩ := DataW.trod_int Tryd.underlying3 j1
      obtain ⟨g, e2, _⟩ := DataW.trod_bool Tryd.underlying4 j2
      obtain ⟨t, e3, _, wt⟩ := DataW.trod_string Tryd.underlying9 j3
      simp at e0 e1 e2 e3
      subst e0 e1 e2 e3
      exact ⟨k.data.toList, i, g, t.data.toList, rfl, by simpa using wk, i64_of_wf wi, by simpa using wt⟩
/-- A list of writes that came in. -/
theorem open_wrs {H : Type} {enc : TypeId × Value → H} {W : World} {a : Option Addr} {len cap : Nat} {d : DataW H} {p : List MemPlace} (h : DataW.Trod enc Tryd.prog W 0 (fun _ => true) true 22 (.slice a len cap) d p) :
    ∃ l, Wrs W a len cap l ∧ WShort l := by
  have hc : Tryd.prog.cellsOf 28 = 4 := by kernel_rfl
  obtain ⟨fuel, hf⟩ := h
  rcases open_slice Tryd.underlying22 hf with ⟨hcs, hx⟩ | ⟨x, l, c, m, n, D, Pl, hcs, _, hl, hm, hmm, hx, hcell⟩
  · simp [Value.cells] at hcs
    obtain ⟨rfl, rfl, rfl⟩ := hcs
    exact ⟨[], ⟨rfl, Nat.le_refl _, by omega, .inl rfl⟩, fun c hc => by cases hc⟩
  · simp [Value.cells] at hcs
    obtain ⟨rfl, rfl, rfl⟩ := hcs
    simp only [if_true] at hmm
    subst hmm
    rw [hc] at hcell
    have key : ∀ i, i < m → ∃ q : Wr, (∀ j u, q.arr[j]? = some u → W.cell? ((x.add (i * 4)).add j) = some u) ∧ q.k.length ≤ 9223372036854775807 ∧ q.v.length ≤ 9223372036854775807 := by
      intro i hi
      obtain ⟨cs', h1, h2⟩ := hcell i hi
      obtain ⟨_, h3l, h3⟩ := World.cells?_some h1
      obtain ⟨k', i', g', v', rfl, hk, _, hv⟩ := wr_trod (sp := true) h2
      refine ⟨⟨k', i', g', v'⟩, fun j u hj => ?_, by unfold maxLen at hk; exact hk, by unfold maxLen at hv; exact hv⟩
      have hjl : j < 4 := by
        have := (Array.getElem?_eq_some_iff.1 hj).1
        simpa [Wr.arr] using this
      have h4 := h3 j hjl
      rw [h4]
      rw [← hj]
      simp [Wr.arr]
    obtain ⟨V0, hV0⟩ := choose_at key
    obtain ⟨V, hV⟩ : ∃ V : Nat → Wr, ∀ i, i < m → ((∀ j u, (V i).arr[j]? = some u → W.cell? ((x.add (i * 4)).add j) = some u) ∧ (V i).k.length ≤ 9223372036854775807 ∧ (V i).v.length ≤ 9223372036854775807) := by
      refine ⟨fun i => (V0 i).getD Wr.zero, fun i hi => ?_⟩
      obtain ⟨q, hq, hp⟩ := hV0 i hi
      simp only [hq, Option.getD_some]
      exact hp
    have hgd : ∀ i, i < len → ((List.range len).map V).getD i Wr.zero = V i := fun i hi => by simp [List.getD, hi]
    refine ⟨(List.range len).map V, ⟨by simp, hl, by unfold maxLen at hm; omega, ?_⟩, ?_⟩
    · by_cases hz : m = 0
      · exact .inl hz
      · right
        obtain ⟨b, off, spot⟩ := x
        have h0 := (hV 0 (by omega)).1 0 _ rfl
        have hspot : spot = none := by simpa [Addr.add] using World.cell?_spot h0
        subst hspot
        refine ⟨b, off, rfl, fun i hi j u hj => ?_⟩
        rw [hgd i hi] at hj
        have hq := (hV i (by omega)).1
        have e1 : (⟨b, off, none⟩ : Addr).add (i * 4) = ⟨b, off + i * 4, none⟩ := by
          by_cases h0 : i * 4 = 0
          · rw [h0]; rfl
          · simp [Addr.add, h0]
        rw [e1] at hq
        have e2 : (⟨b, off + i * 4, none⟩ : Addr).add j = ⟨b, off + i * 4 + j, none⟩ := by
          by_cases h0 : j = 0
          · subst h0; rfl
          · simp [Addr.add, h0]
        have h5 := hq j u hj
        rw [e2] at h5
        exact h5
    · intro g hg
      obtain ⟨i, hi, rfl⟩ := List.mem_map.1 hg
      exact (hV i (by have := List.mem_range.1 hi; omega)).2
end Go.Proofs.YtjkifdjjcfempaaDoor
end

section
namespace Go.Proofs.YtjkifdjjcfempaaDoor
open Go.RowKit
set_option maxRecDepth 100000

theorem gTab : Tryd.prog.globalNamed "math/bits.deBruijn64tab" = some 1 := by kernel_rfl
theorem gTabType : (Tryd.prog.globals[1]?).map (·.type) = some 113 := by kernel_rfl
theorem cells48 : Tryd.prog.cellsOf 113 = 64 := by kernel_rfl
theorem cells5 : Tryd.prog.cellsOf 5 = 1 := by kernel_rfl

def tab64 : List Int := [0, 1, 56, 2, 57, 49, 28, 3, 61, 58, 42, 50, 38, 29, 17, 4, 62, 47, 59, 36, 45, 43, 51, 22, 53, 39, 33, 30, 24, 18, 12, 5, 63, 55, 48, 27, 60, 41, 37, 16, 46, 35, 44, 21, 52, 32, 23, 11, 54, 26, 40, 15, 34, 20, 31, 10, 25, 14, 19, 9, 13, 8, 7, 6]
def tab32 : List Int := [0, 1, 28, 2, 29, 14, 24, 3, 30, 22, 20, 15, 25, 17, 4, 8, 31, 27, 13, 23, 21, 19, 16, 7, 26, 12, 18, 6, 11, 5, 10, 9]

theorem tabW_of_laid {W : World} (h1 : laidMet Tryd.prog [("math/bits.deBruijn32tab", Rows.laid_math_bits_deBruijn32tab), ("math/bits.deBruijn64tab", Rows.laid_math_bits_deBruijn64tab)] W) : TabW W := by
  have h2 := h1.tail
  have T : Lib.TabIs Tryd.prog W "math/bits.deBruijn64tab" .u8 tab64 := Lib.tabIs_of_head (rest := []) gTab gTabType Tryd.underlying113 Tryd.underlying5 cells5 cells48 h2
  exact ⟨T.cell gTab 0 (by decide), T.cell gTab 1 (by decide), T.cell gTab 3 (by decide), T.cell gTab 7 (by decide)⟩

/-- A world for the witness: the settled one, the tables holding what their initialisers lay. -/
noncomputable def laidWorld (os : Os) : World :=
  { World.holding Tryd.prog os ⟨#[], #[], []⟩ with
    heap := ((World.holding Tryd.prog os ⟨#[], #[], []⟩).heap.modify 0 (fun o => match o with
      | .cells _ t frozen => .cells (tab32.map (Value.int .u8)).toArray t frozen
      | o => o)).modify 1 (fun o => match o with
      | .cells _ t frozen => .cells (tab64.map (Value.int .u8)).toArray t frozen
      | o => o) }
end Go.Proofs.YtjkifdjjcfempaaDoor
end

