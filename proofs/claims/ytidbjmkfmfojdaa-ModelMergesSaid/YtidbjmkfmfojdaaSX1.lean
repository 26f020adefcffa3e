/-
  Merged: HT CS K2 K6 CX A0 YB YC A1 A2 B3 A5 B5 A6 AQ AR AS AT AX AY AZ BC BD.
-/
import Derived.Deep.QuietTactic
import Derived.StillTail
import Derived.Lib.QuietBelow
import Derived.Test.YtidbjmkfmfojdaaRows
import Derived.WalkKit
import Derived.Lib.Hide
import Derived.BigQuiet
import Derived.BigRegion
import Derived.Deep.Cut
import Derived.Deep.MidRow
import Derived.Great.BuildSlice
import Derived.Outline
import Derived.OwnWalk
import Derived.Laws.Rows
import Derived.ChangeKeysEq
import Derived.Laws.StructEq
import Derived.WalkSpells
import Derived.WalkLawsBesides
import Derived.Laws.CopyOwn
import Derived.WalkSmall
import Derived.Lib.LaidTab
import Derived.Deep.RegionWith
import Derived.Lib.MinMax
import Derived.WideShapes
import Derived.ChangeSame
import Derived.OpenShut
import Derived.Deep.Slices
import Derived.Deep.AppendSrc
import Derived.Lib.AppendZerosOnto
import Derived.Lib.SliceRun
import Derived.Lib.Walk
import Derived.Lib.OthersKept
import Derived.Laws.RangeAny
import Derived.Maps.OwnOps
import Derived.Maps.Views
import Derived.ChangeSlices
import Derived.ChangeArms
import Derived.Deep.DeepAppendWide
import Derived.OrdersIn
import Derived.TacticsIn
import Derived.RangeFuncNested
import Derived.RangeFuncBound
import Derived.RangeFuncCalls
import Derived.RangeFuncLeaves
import Derived.Maps.AppendAt
import Derived.Shelf.Abstract
import Derived.OwnWalkIn
import Derived.TacticsInMore
import Derived.LoopNIn
import Derived.LoopIn
import Derived.Test.YtidbjmkfmfojdaaSK6

section
namespace Go.Proofs.Ytidbjmkfmfojdaa
open Go Go.RowKit
set_option linter.unusedVariables false

section
variable {P : Program} {ops : Array Oper} {md : Region.Mode} {C : World → Prop}

/-- Whatever order the head takes: what it leaves is told by 'L'. -/
def wpHd (P : Program) (md : Region.Mode) (ops : Array Oper) (C : World → Prop) (n : Nat) (L : Array Bool → Act → Prop) : Nat → Array Bool → Act → Prop
  | 0, listed, a => L listed a
  | f + 1, listed, a => Region.ready md ops listed ≠ [] ∧ ∀ i ∈ Region.ready md ops listed, i < n ∧ qOp P ops C i (wpHd P md ops C n L f (listed.setIfInBounds i true)) a

theorem any_of_hd {n g : Nat} {L : Array Bool → Act → Prop} {Q : Exit → Act → World → Prop} (hL : ∀ listed a w, C w → L listed a → wpAny P md ops Q g listed a w) :
    ∀ (f : Nat) (listed : Array Bool) (a : Act) (w : World), C w → wpHd P md ops C n L f listed a → wpAny P md ops Q (f + g) listed a w
  | 0, listed, a, w, hw, h => by rw [Nat.zero_add]; exact hL _ _ _ hw h
  | f + 1, listed, a, w, hw, h => by
    rw [show f + 1 + g = (f + g) + 1 by omega]
    exact ⟨fun h0 => absurd h0 h.1, fun i hi => wpOp_of_qOp hw (fun a' w' hw' h' => any_of_hd hL f _ a' w' hw' h') (h.2 i hi).2⟩

/-- One of the head that may come up is taken first; 'I' holds of all that may have been listed till then. -/
theorem hd_first {n i : Nat} {oi : Oper} {v : Value} {L : Array Bool → Act → Prop} {I : Array Bool → Prop} (hi : ops[i]? = some oi) (hsel : ∀ (j : Nat) (o : Oper) cs b, ops[j]? = some o → o.op ≠ .select cs b)
    (hset : ∀ listed j, I listed → j ∈ Region.ready md ops listed → j < n → I (listed.setIfInBounds j true))
    (hwait : ∀ listed, I listed → ∀ j, j < n → listed.getD j true = false → ∀ t, n ≤ t → t ∉ Region.ready md ops listed)
    (hin : i < n) (hdone : ∀ listed a, L listed a → ∀ j ∈ Region.ready md ops listed, n ≤ j) :
    ∀ (f : Nat) (listed : Array Bool) (a : Act), I listed →
      (∀ j oj, ops[j]? = some oj → j ≠ i → listed.getD j true = false → (∀ e ∈ oj.after, Region.binds md e = true → e.on ≠ i) → oi.apart ops oj = true) →
      i ∈ Region.ready md ops listed → YieldsIn P ops C oi v a →
      wpHd P md ops C n L f (listed.setIfInBounds i true) (a.put oi.dst v) → wpHd P md ops C n L (f + 1) listed a := by
  intro f
  induction f with
  | zero =>
    intro listed a inv _ hr hy H
    have hun := (mem_ready.1 hr).1
    refine ⟨fun h => (by rw [h] at hr; cases hr), fun j hj => ?_⟩
    have hjn : j < n := Nat.lt_of_not_le fun h => hwait listed inv i hin hun j h hj
    refine ⟨hjn, ?_⟩
    by_cases hji : j = i
    · subst hji; exact hy.qOp hi H
    · have := hdone _ _ H j (ready_mono hj hji)
      omega
  | succ f ih =>
    intro listed a inv hfree hr hy H
    have hun := (mem_ready.1 hr).1
    refine ⟨fun h => (by rw [h] at hr; cases hr), fun j hj => ?_⟩
    have hjn : j < n := Nat.lt_of_not_le fun h => hwait listed inv i hin hun j h hj
    refine ⟨hjn, ?_⟩
    by_cases hji : j = i
    · subst hji; exact hy.qOp hi H
    · have h1 := (H.2 j (ready_mono hj hji)).2
      obtain ⟨hjun, oj, hoj, hall⟩ := mem_ready.1 hj
      have hnot : ∀ e ∈ oj.after, Region.binds md e = true → e.on ≠ i := fun e he hb heq => by
        have h2 := hall e he hb
        rw [heq] at h2
        rw [getD_both hun] at h2
        cases h2
      have h2 := qOp_put hoj (hfree j oj hoj hji hjun hnot) (fun cs b => hsel i oi cs b hi) (fun cs b => hsel j oj cs b hoj) hy h1
      refine qOp_mono (fun a' h3 => ih (listed.setIfInBounds j true) a' (hset listed j inv hj hjn) (fun k ok hk hki hkun hno => ?_) (ready_mono hr (Ne.symm hji)) h3.1 ?_) h2
      · refine hfree k ok hk hki ?_ hno
        by_cases hjk : j = k
        · subst hjk; exact hjun
        · rwa [getD_set_ne true hjk] at hkun
      · rw [Array.setIfInBounds_comm _ _ hji]
        exact h3.2

/-- Everything of the head from k on is waited for by one behind it, up to the tail's first. -/
def sinkFrom (md : Region.Mode) (ops : Array Oper) (k n : Nat) : Bool :=
  (List.range n).all fun i => decide (i < k) || (List.range (n + 1)).any fun j => decide (i < j) && Region.waitsFor md ops j i
theorem HdInv.waits {k n : Nat} (hs : sinkFrom md ops k n = true) (hc : Region.chainB md ops n = true) {listed : Array Bool} (inv : HdInv md ops k n listed) :
    ∀ (d i : Nat), n - i = d → i < n → listed.getD i true = false → ∀ t, n ≤ t → t ∉ Region.ready md ops listed := by
  intro d
  induction d using Nat.strongRecOn with
  | _ d ih =>
    intro i hd hi hun t ht hr
    obtain ⟨_, ot, hot, hall⟩ := mem_ready.1 hr
    have htl : t < ops.size := (Array.getElem?_eq_some_iff.1 hot).1
    by_cases htn : t = n
    · subst htn
      have h1 := List.all_eq_true.1 hs i (List.mem_range.2 hi)
      simp only [Bool.or_eq_true, decide_eq_true_eq] at h1
      rcases h1 with h1 | h1
      · rw [inv.first i h1] at hun; cases hun
      · obtain ⟨j, hj, hj2⟩ := List.any_eq_true.1 h1
        simp only [Bool.and_eq_true, decide_eq_true_eq] at hj2
        obtain ⟨oj, hoj, e, he, hb, hon⟩ := Region.waitsFor_spec hj2.2
        have hjle : j ≤ t := by have := List.mem_range.1 hj; omega
        by_cases hjt : j = t
        · subst hjt
          have : oj = ot := Option.some.inj (hoj.symm.trans hot)
          subst this
          have h2 := hall e he hb
          rw [hon, getD_both hun] at h2
          cases h2
        · cases hl : listed.getD j false with
          | true =>
            have h2 := inv.head.closed j oj hoj hl e he hb
            rw [hon, getD_both hun] at h2
            cases h2
          | false =>
            have hjs : j < listed.size := by rw [inv.head.size]; omega
            exact ih (t - j) (by omega) j rfl (by omega) (getD_in hjs hl) t (Nat.le_refl _) hr
    · have h1 := List.all_eq_true.1 hc t (List.mem_range.2 htl)
      simp only [Bool.or_eq_true, decide_eq_true_eq] at h1
      rcases h1 with h1 | h1
      · omega
      · obtain ⟨o', ho', e, he, hb, hon⟩ := Region.waitsFor_spec h1
        have : o' = ot := Option.some.inj (ho'.symm.trans hot)
        subst this
        have h2 := hall e he hb
        rw [hon, getD_both (inv.head.tail (t - 1) (by omega) (by omega))] at h2
        cases h2

theorem hd_lex {k0 n g : Nat} {Lq : Act → Prop} (hsel : Region.noSelect ops = true) (hs : sinkFrom md ops k0 n = true) (hc : Region.chainB md ops n = true) :
    ∀ (l : List Oper) (k : Nat) (listed : Array Bool) (a : Act), (∀ j, j < l.length → l[j]? = ops[k + j]?) → k + l.length = n → HdInv md ops k0 n listed →
    Region.lexHead md ops g l.length k listed = true → wpQuiet P ops C Lq l a →
    wpHd P md ops C n (fun listed' a' => Region.seqB md ops g n listed' = true ∧ Lq a') l.length listed a
  | [], k, listed, a, _, hk, _, hB, h => by
    have : k = n := by simpa using hk
    subst this
    exact ⟨by simpa [Region.lexHead] using hB, h⟩
  | o :: l, k, listed, a, hl, hk, inv, hB, h => by
    have h0 : ops[k]? = some o := by simpa using (hl 0 (by simp)).symm
    simp only [List.length_cons, Region.lexHead, Bool.and_eq_true] at hB
    obtain ⟨⟨hr, hf⟩, hB'⟩ := hB
    have hkn : k < n := by simp only [List.length_cons] at hk; omega
    have hr' : k ∈ Region.ready md ops listed := by simpa using hr
    have hst : qOp P ops C k (wpQuiet P ops C Lq l) a := by unfold qOp; simp only [h0]; exact h
    obtain ⟨v, hy, hK⟩ := yieldsIn_of_qOp h0 hst
    exact hd_first (I := HdInv md ops k0 n) h0 (Region.noSelect_spec hsel) (fun _ _ hI hj hjn => hI.set hj hjn) (fun _ hI j hj hun t ht => hI.waits hs hc (n - j) j rfl hj hun t ht) hkn
      (fun listed' a' hL => seqB_ready hL.1) l.length listed a inv (Region.free_spec h0 hf) hr' hy
      (hd_lex hsel hs hc l (k + 1) _ _ (fun j hj => by have := hl (j + 1) (by simp; omega); simpa [Nat.add_assoc, Nat.add_comm 1 j] using this) (by simp only [List.length_cons] at hk; omega) (inv.set hr' hkn) hB' hK)

/-- All that is asked of the region's form, behind the first k. -/
def tailB (md : Region.Mode) (ops : Array Oper) (k n : Nat) (listed : Array Bool) : Bool :=
  Region.noSelect ops && decide (n < ops.size) && sinkFrom md ops k n && Region.chainB md ops n && Region.lexHead md ops (ops.size - n) (n - k) k listed &&
  (decide (listed.size = ops.size) && ((List.range ops.size).all fun j => !listed.getD j false || ((ops[j]?).map (·.after.all fun e => !Region.binds md e || listed.getD e.on false)).getD true) &&
    ((List.range ops.size).all fun t => decide (t < n) || !listed.getD t true) && (List.range k).all fun i => listed.getD i true)

/-- THE WALK: the first k are listed; the head is walked in its order, the tail behind it. -/
theorem any_head_tail {Q : Exit → Act → World → Prop} {l : List Oper} {listed : Array Bool} {a : Act} {w : World} {f : Nat} (k n : Nat) (hkn : k ≤ n) (hf : f = l.length - k) (hB : tailB md l.toArray k n listed = true) (hC : C w)
    (h : wpQuiet P l.toArray C (fun a' => ∀ w', C w' → wpList P l.toArray Q (l.drop n) a' w') ((l.drop k).take (n - k)) a) : wpAny P md l.toArray Q f listed a w := by
  subst hf
  simp only [tailB, Bool.and_eq_true, decide_eq_true_eq] at hB
  obtain ⟨⟨⟨⟨⟨hsel, hn⟩, hs⟩, hc⟩, hlex⟩, ⟨⟨hsz, hcl⟩, htl⟩, hfs⟩ := hB
  have hn' : n < l.length := by simpa using hn
  have hlen : ((l.drop k).take (n - k)).length = n - k := by simp; omega
  have hdl : (l.drop n).length = l.toArray.size - n := by simp
  have inv0 : HdInv md l.toArray k n listed := by
    refine ⟨⟨hsz, fun j oj hj hl e he hb => ?_, fun t ht ht' => ?_⟩, fun i hi => List.all_eq_true.1 hfs i (List.mem_range.2 hi)⟩
    · have h1 := List.all_eq_true.1 hcl j (List.mem_range.2 (Array.getElem?_eq_some_iff.1 hj).1)
      simp only [hl, Bool.not_true, Bool.false_or, hj, Option.map_some, Option.getD_some, Array.all_eq_true_iff_forall_mem] at h1
      have h2 := h1 e he
      simp only [hb, Bool.not_true, Bool.false_or] at h2
      exact h2
    · have h1 := List.all_eq_true.1 htl t (List.mem_range.2 ht')
      simp only [Bool.or_eq_true, decide_eq_true_eq, Bool.not_eq_true'] at h1
      rcases h1 with h1 | h1
      · omega
      · exact h1
  have H := hd_lex (C := C) (md := md) (P := P) (ops := l.toArray) (g := l.toArray.size - n) hsel hs hc ((l.drop k).take (n - k)) k listed a (fun j hj => by
    rw [hlen] at hj
    rw [List.getElem?_take, if_pos (by omega), List.getElem?_drop]
    simp) (by rw [hlen]; omega) inv0 (by rw [hlen]; exact hlex) h
  have := any_of_hd (Q := Q) (g := l.toArray.size - n) (fun listed a' w' hw' hL => by
    have := wpAny_of_seq (md := md) (Q' := Q) (l.drop n) n listed a' w' (fun j => by simp [List.getElem?_drop]) (by rw [hdl]; exact hL.1) (hL.2 w' hw')
    rwa [hdl] at this) _ _ _ w hC H
  rw [hlen, show n - k + (l.toArray.size - n) = l.length - k by simp; omega] at this
  exact this
end
end Go.Proofs.Ytidbjmkfmfojdaa
end

section
namespace Go.Proofs.Ytidbjmkfmfojdaa
open Go.RowKit Go Go.Sort
set_option linter.unusedVariables false
set_option maxRecDepth 20000

set_option maxHeartbeats 1600000 in
theorem rvjoin_c {w : World} {a : Option Addr} {n cap : Nat} {l : List (Int × Int)} (hl : Prs w a n cap l) : Calls Try.prog 144 #[.slice a n cap] w (Tells (.agg #[.int .i64 (joinS l).1, .int .i64 (joinS l).2]) w) := by
  have hln := hl.len
  have hnle := hl.le
  have hnm := hl.max
  have hq := (Pair.second w (.cells #[.int .i64 0, .int .i64 0] 73) 73 0 0)
  have ho := (Pair.new w 73 0 0).alloc (.cells #[.int .i64 0, .int .i64 0] 73)
  have hb := second_below w (.cells #[.int .i64 0, .int .i64 0] 73) (.cells #[.int .i64 0, .int .i64 0] 73)
  have HL := Lib.hid hl
  clear hl
  go_enter Try.func144, Try.ntmps144
  go_upto_region 2 with (fail)
  generalize (w.alloc (.cells #[.int .i64 0, .int .i64 0] 73)).alloc (.cells #[.int .i64 0, .int .i64 0] 73) = W1 at *
  have HQ := Lib.hid hq
  have HO := Lib.hid ho
  have HB := Lib.hid hb
  clear hq ho hb
  go_wp2
  go_loopw [4] (fun i wr => ∃ k : Nat, k ≤ n ∧ i = .int .i64 k ∧ Pair wr (w.heap.size + 1) 73 (joinS (l.take k)).1 (joinS (l.take k)).2 ∧ Pair wr w.heap.size 73 0 0 ∧ Below w.heap.size w wr) (fun i _ => n - (intOf i).toNat)
  case atStart => exact ⟨0, by omega, rfl, HQ.out, HO.out, HB.out⟩
  case round =>
    clear HQ HO HB
    obtain ⟨k, hk, rfl, hq, ho, hB⟩ := hrel
    by_cases hlt : k < n
    · have hki : (k : Int) < (n : Int) := by omega
      have hki2 : (k : Int) < (cap : Int) := by omega
      obtain ⟨b, off, rfl, hcell⟩ : ∃ b off, a = some ⟨b, off, none⟩ ∧ ∀ i, i < n → w.cell? ⟨b, off + i * 2, none⟩ = some (.int .i64 (l.getD i (0, 0)).1) ∧ w.cell? ⟨b, off + i * 2 + 1, none⟩ = some (.int .i64 (l.getD i (0, 0)).2) := by
        rcases HL.out.adr with h0 | h
        · omega
        · exact h
      have HCW := Lib.hid (fun W (h : Below w.heap.size w W) => (show W.cell? ⟨b, off + k * 2, none⟩ = some (.int .i64 (l.getD k (0, 0)).1) ∧ W.cell? ⟨b, off + k * 2 + 1, none⟩ = some (.int .i64 (l.getD k (0, 0)).2) from
        ⟨(h.cell (World.block_lt_of_cell? w _ (hcell k hlt).1)).trans (hcell k hlt).1, (h.cell (World.block_lt_of_cell? w _ (hcell k hlt).2)).trans (hcell k hlt).2⟩))
      have HJ := Lib.hid (joinS_take l k (by omega))
      obtain ⟨x, hx⟩ : ∃ x, l.getD k (0, 0) = x := ⟨_, rfl⟩
      obtain ⟨j, hj⟩ : ∃ j, joinS (l.take k) = j := ⟨_, rfl⟩
      simp only [hx] at HCW
      rw [hx] at HJ
      rw [hj] at hq HJ
      obtain ⟨x0, x1⟩ := x
      obtain ⟨j0, j1⟩ := j
      simp only at HCW HJ hq
      obtain ⟨p0, p1⟩ := HCW.out wr hB
      have q0 := hq.c0
      have q1 := hq.c1
      have z0 := hq.fz 0
      have z1 := hq.fz 1
      have HQ := Lib.hid hq
      have HO := Lib.hid ho
      have HB := Lib.hid hB
      clear hcell hx hj hq ho hB
      go_wp2
      refine wp_region_any (by kernel_rfl) ?_
      refine any_head_tail (C := fun w' => ∃ n, w' = wr.drewN n) 0 9 (by decide) (by rfl) (by kernel_rfl) ⟨1, rfl⟩ ?_
      simp only [List.drop_succ_cons, List.drop_zero, List.take_succ_cons, List.take_zero]
      repeat (go_big_quiet_step (fail))
      refine wpQuiet_nil ?_
      intro _ hw'
      obtain ⟨nq, hw''⟩ := hw'
      subst hw''
      have hbq := drewN_below (Below.refl wr.heap.size wr) nq
      have HQ2 := Lib.hid (HQ.out.kept hbq)
      have HO2 := Lib.hid (HO.out.kept hbq)
      have HB2 := Lib.hid (HB.out.trans (hbq.mono HB.out.size))
      clear hbq q0 q1 z0 z1 p0 p1 HQ HO HB
      generalize wr.drewN nq = W2 at *
      have q0 := HQ2.out.c0
      have z0 := HQ2.out.fz 0
      go_upto_region 6 with (fail)
      have HQ3 := Lib.hid (HQ2.out.set0 (Max.max j0 x0))
      have HO3 := Lib.hid (HO2.out.other ⟨w.heap.size + 1, 0, none⟩ (.int .i64 (Max.max j0 x0)) (by simp))
      have HB3 := Lib.hid (HB2.out.setCell (p := ⟨w.heap.size + 1, 0, none⟩) (by simp) (.int .i64 (Max.max j0 x0)))
      clear q0 z0 HQ2 HO2 HB2
      generalize W2.setCell ⟨w.heap.size + 1, 0, none⟩ (.int .i64 (Max.max j0 x0)) = W3 at *
      have q1 := HQ3.out.c1
      obtain ⟨p0, p1⟩ := HCW.out W3 HB3.out
      refine wp_region_any (by kernel_rfl) ?_
      refine any_head_tail (C := fun w' => ∃ n, w' = W3.drewN n) 0 9 (by decide) (by rfl) (by kernel_rfl) ⟨1, rfl⟩ ?_
      simp only [List.drop_succ_cons, List.drop_zero, List.take_succ_cons, List.take_zero]
      repeat (go_big_quiet_step (fail))
      refine wpQuiet_nil ?_
      intro _ hw'
      obtain ⟨nq, hw''⟩ := hw'
      subst hw''
      have hbq := drewN_below (Below.refl W3.heap.size W3) nq
      have HQ4 := Lib.hid (HQ3.out.kept hbq)
      have HO4 := Lib.hid (HO3.out.kept hbq)
      have HB4 := Lib.hid (HB3.out.trans (hbq.mono HB3.out.size))
      clear hbq q1 p0 p1 HQ3 HO3 HB3
      generalize W3.drewN nq = W4 at *
      have q1 := HQ4.out.c1
      have z1 := HQ4.out.fz 1
      go_wp2
      go_roundw
      case rel => exact ⟨k + 1, by omega, rfl, by rw [HJ.out]; exact HQ4.out.set1 _, HO4.out.other _ _ (by simp), HB4.out.setCell (by simp) _⟩
      case measure => simp [intOf]; omega
    · obtain rfl : k = n := by omega
      rw [List.take_of_length_le (by omega)] at hq
      have q0 := hq.c0
      have q1 := hq.c1
      have o0 := ho.c0
      have o1 := ho.c1
      have z0 := ho.fz 0
      have z1 := ho.fz 1
      have HO := Lib.hid ho
      have HB := Lib.hid hB
      clear hq ho hB
      go_wp2
      refine bodyPost_ret (results_cell_row rfl _ _ w.heap.size 73 _ (0, 0) _ rfl ((HO.out.set0 _).set1 _) Try.underlying73 rfl (size2 _ _)) rfl ⟨rfl, (HB.out.setCell (Nat.le_refl _) _).setCell (Nat.le_refl _) _⟩
end Go.Proofs.Ytidbjmkfmfojdaa
end

section
namespace Go.Proofs.Ytidbjmkfmfojdaa
open Go.RowKit Go Go.Sort
set_option linter.unusedVariables false
set_option maxRecDepth 20000

set_option maxHeartbeats 1600000 in
theorem rvtwo_c (a b c d : Int) (w : World) : Calls Try.prog 138 #[.agg #[.int .i64 a, .int .i64 b], .agg #[.int .i64 c, .int .i64 d]] w (Tells (.agg #[.int .i64 (joinS [(a, b), (c, d)]).1, .int .i64 (joinS [(a, b), (c, d)]).2]) w) := by
  have hp := (Pair.new w 73 a b).alloc (.cells #[.int .i64 c, .int .i64 d] 73) |>.alloc (.cells #[.int .i64 0, .int .i64 0] 73)
  have hq := (Pair.new (w.alloc (.cells #[.int .i64 a, .int .i64 b] 73)) 73 c d).alloc (.cells #[.int .i64 0, .int .i64 0] 73)
  have ho := Pair.new ((w.alloc (.cells #[.int .i64 a, .int .i64 b] 73)).alloc (.cells #[.int .i64 c, .int .i64 d] 73)) 73 0 0
  rw [World.size_alloc] at hq
  rw [World.size_alloc, World.size_alloc] at ho
  have hb := ((alloc_below w (.cells #[.int .i64 a, .int .i64 b] 73)).alloc (by simp) (.cells #[.int .i64 c, .int .i64 d] 73)).alloc (by simp; omega) (.cells #[.int .i64 0, .int .i64 0] 73)
  have HJ := Lib.hid (fun W => rvjoin_c (prs2 W a b c d))
  obtain ⟨⟨j0, j1⟩, hj⟩ : ∃ q, joinS [(a, b), (c, d)] = q := ⟨_, rfl⟩
  rw [hj] at HJ ⊢
  have HB := Lib.hid hb
  clear hb hj
  go_enter Try.func138, Try.ntmps138
  go_upto_region 1 with (fail)
  generalize ((w.alloc (.cells #[.int .i64 a, .int .i64 b] 73)).alloc (.cells #[.int .i64 c, .int .i64 d] 73)).alloc (.cells #[.int .i64 0, .int .i64 0] 73) = W1 at *
  have h0 := hp.c0
  have h1 := hp.c1
  have k0 := hq.c0
  have k1 := hq.c1
  have HO := Lib.hid ho
  clear hp hq ho
  go_wp2_with (go_at_call 144; (with_reducible refine (HJ.out _).mono ?_); rintro e9 w9 ⟨rfl, hb9⟩; have o0 := ((HO.out.alloc _).kept hb9).c0; have o1 := ((HO.out.alloc _).kept hb9).c1; have z0 := ((HO.out.alloc _).kept hb9).fz 0; have z1 := ((HO.out.alloc _).kept hb9).fz 1)
  refine bodyPost_ret (results_cell_row rfl _ _ (w.heap.size + 1 + 1) 73 _ (0, 0) _ rfl ((((HO.out.alloc _).kept hb9).set0 _).set1 _) Try.underlying73 rfl (size2 _ _)) rfl ⟨rfl, ((((HB.out.alloc HB.out.size _).trans (hb9.mono (by have := HB.out.size; simp; omega))).setCell (by simp; omega) _).setCell (by simp; omega) _)⟩

end Go.Proofs.Ytidbjmkfmfojdaa
end

section
namespace Go.Proofs.Ytidbjmkfmfojdaa
open Go.RowKit Go Go.Sort
set_option linter.unusedVariables false
set_option maxRecDepth 20000

theorem Cel.vc {W : World} {q : Nat} {n s a b d e : Int} {g : Bool} {t : List UInt8} (h : Cel W q n s a b g t d e) (a' : Int) (b' : Int) : Cel ((W.setCell ⟨q, 2, none⟩ (.int .i64 a')).setCell ⟨q, 3, none⟩ (.int .i64 b')) q n s a' b' g t d e := by
  have h0 : (W.setCell ⟨q, 2, none⟩ (.int .i64 a')).heap[q]? = some (.cells #[.int .i64 n, .int .i64 s, .int .i64 a', .int .i64 b, .bool g, .string (text t), .int .i64 d, .int .i64 e] 75 (0, 0)) := (heap_setCell_same _ q 2 _ _ _ h).trans rfl
  have h1 : ((W.setCell ⟨q, 2, none⟩ (.int .i64 a')).setCell ⟨q, 3, none⟩ (.int .i64 b')).heap[q]? = some (.cells #[.int .i64 n, .int .i64 s, .int .i64 a', .int .i64 b', .bool g, .string (text t), .int .i64 d, .int .i64 e] 75 (0, 0)) := (heap_setCell_same _ q 3 _ _ _ h0).trans rfl
  exact h1
end Go.Proofs.Ytidbjmkfmfojdaa
end

section
namespace Go.Proofs.Ytidbjmkfmfojdaa
open Go.RowKit Go Go.Sort Go.Deep
set_option linter.unusedVariables false
set_option maxRecDepth 20000

set_option maxHeartbeats 1600000 in
theorem rsless_c (n s m t : Int) (w : World) : Calls Try.prog 143 #[.agg #[.int .i64 n, .int .i64 s], .agg #[.int .i64 m, .int .i64 t]] w (Tells (.bool (sless n s m t)) w) := by
  have hp := (Pair.new w 71 n s).alloc (.cells #[.int .i64 m, .int .i64 t] 71)
  have hq := Pair.second w (.cells #[.int .i64 n, .int .i64 s] 71) 71 m t
  have hb := second_below w (.cells #[.int .i64 n, .int .i64 s] 71) (.cells #[.int .i64 m, .int .i64 t] 71)
  have h0 := hp.c0
  have h1 := hp.c1
  have k0 := hq.c0
  have k1 := hq.c1
  have HB := Lib.hid hb
  have HV := Lib.hid (show sless n s m t = decide (n < m ∨ (n = m ∧ s < t)) from rfl)
  clear hp hq hb
  by_cases e : n = m
  · subst e
    by_cases l : s < t
    all_goals
      go_enter Try.func143, Try.ntmps143
      go_wp2
      go_ret
      exact ⟨by rw [HV.out]; simp; try omega, HB.out⟩
  · have e0 : (n != m) = true := by simpa using e
    by_cases l : n < m
    all_goals
      go_enter Try.func143, Try.ntmps143
      go_wp2
      go_ret
      exact ⟨by rw [HV.out]; simp; try omega, HB.out⟩
end Go.Proofs.Ytidbjmkfmfojdaa
end

section
namespace Go.Proofs.Ytidbjmkfmfojdaa
open Go.RowKit Go Go.Sort
set_option linter.unusedVariables false

section
variable {K V : Type} {lt : K → K → Bool}
theorem look_cons [DecidableEq K] (r : K × V) (S : List (K × V)) (k : K) : look (r :: S) k = if r.1 = k then some r.2 else look S k := rfl
theorem kasc_ext (ht : Strict lt) : ∀ {S T : List (K × V)}, KAsc lt S → KAsc lt T → (∀ z, z ∈ S ↔ z ∈ T) → S = T
  | [], [], _, _, _ => rfl
  | [], b :: m, _, _, h => by have := (h b).2 (List.mem_cons_self ..); cases this
  | a :: l, [], _, _, h => by have := (h a).1 (List.mem_cons_self ..); cases this
  | a :: l, b :: m, hl, hm, h => by
    unfold KAsc at hl hm
    rw [List.pairwise_cons] at hl hm
    have e : a = b := by
      rcases List.mem_cons.1 ((h a).1 (List.mem_cons_self ..)) with e | ha
      · exact e
      · rcases List.mem_cons.1 ((h b).2 (List.mem_cons_self ..)) with e | hb
        · exact e.symm
        · have := ht.asym (hl.1 b hb)
          rw [hm.1 a ha] at this
          cases this
    subst e
    rw [kasc_ext ht hl.2 hm.2 fun z => ⟨fun hz => ?_, fun hz => ?_⟩]
    · rcases List.mem_cons.1 ((h z).1 (List.mem_cons_of_mem _ hz)) with e | hz'
      · have := hl.1 z hz
        rw [e, ht.irr] at this
        cases this
      · exact hz'
    · rcases List.mem_cons.1 ((h z).2 (List.mem_cons_of_mem _ hz)) with e | hz'
      · have := hm.1 z hz
        rw [e, ht.irr] at this
        cases this
      · exact hz'
theorem look_ext [DecidableEq K] (ht : Strict lt) {S T : List (K × V)} (hs : KAsc lt S) (hT : KAsc lt T) (h : ∀ k, look S k = look T k) : S = T :=
  kasc_ext ht hs hT fun ⟨k, c⟩ => ⟨fun hz => look_mem ((h k).symm.trans (mem_look ht hs hz)), fun hz => look_mem ((h k).trans (mem_look ht hT hz))⟩
/-- A row put in its place. -/
theorem ins_look [DecidableEq K] (ht : Strict lt) {l : List (K × V)} (r : K × V) (k : K) : look (l.filter (fun o => lt o.1 r.1) ++ r :: l.filter (fun o => lt r.1 o.1)) k = if r.1 = k then some r.2 else look l k := by
  have happ : ∀ (A B : List (K × V)), look (A ++ B) k = (look A k).or (look B k) := by
    intro A B
    induction A with
    | nil => rfl
    | cons x A ih =>
      show look (x :: (A ++ B)) k = _
      rw [look_cons, look_cons]
      split
      · rfl
      · exact ih
  have hfil : ∀ (p : K × V → Bool), (∀ c, p (k, c) = true) → ∀ A : List (K × V), look (A.filter p) k = look A k := by
    intro p hp A
    induction A with
    | nil => rfl
    | cons x A ih =>
      rw [List.filter_cons]
      by_cases e : x.1 = k
      · have : p x = true := by have := hp x.2; rw [← e] at this; exact this
        rw [if_pos this]; unfold look; rw [if_pos e, if_pos e]
      · split
        · unfold look; rw [if_neg e, if_neg e, ih]
        · rw [ih]; conv => rhs; unfold look; rw [if_neg e]
  have hnone : ∀ (p : K × V → Bool), (∀ c, p (k, c) = false) → ∀ A : List (K × V), look (A.filter p) k = none := by
    intro p hp A
    rw [look_none_iff]
    intro x hx e
    have h1 := (List.mem_filter.1 hx).2
    have h2 := hp x.2
    rw [← e] at h2
    have h3 : p x = false := h2
    rw [h3] at h1
    cases h1
  rw [happ]
  by_cases e : r.1 = k
  · rw [if_pos e, hnone _ (fun c => by rw [e]; exact ht.irr _)]
    show look (r :: _) k = _
    rw [look, if_pos e]
  · rw [if_neg e]
    have hc : ∀ S : List (K × V), look (r :: S) k = look S k := fun S => by rw [look, if_neg e]
    rw [hc]
    cases h1 : lt k r.1 with
    | true =>
      rw [hfil _ (fun _ => h1), hnone _ (fun _ => ht.asym h1)]
      cases look l k <;> rfl
    | false =>
      rw [hnone _ (fun _ => h1)]
      cases h2 : lt r.1 k with
      | true => rw [hfil _ (fun _ => h2)]; rfl
      | false => exact absurd (ht.tot _ _ h2 h1) e
theorem ins_asc (ht : Strict lt) {l : List (K × V)} (h : KAsc lt l) (r : K × V) : KAsc lt (l.filter (fun o => lt o.1 r.1) ++ r :: l.filter (fun o => lt r.1 o.1)) := by
  unfold KAsc at *
  rw [List.pairwise_append, List.pairwise_cons]
  refine ⟨h.filter _, ⟨fun z hz => (List.mem_filter.1 hz).2, h.filter _⟩, fun a ha b hb => ?_⟩
  have h1 := (List.mem_filter.1 ha).2
  rcases List.mem_cons.1 hb with rfl | hb
  · exact h1
  · exact ht.tr _ _ _ h1 (List.mem_filter.1 hb).2
end
section
variable {α K : Type} {lt : K → K → Bool}
/-- One round of putting a row in its place: it goes before the first that isn't below it, what is of its key goes. -/
def sstep [DecidableEq K] (lt : K → K → Bool) (kf : α → K) (x : α) (st : List α × Bool) (o : α) : List α × Bool :=
  let a := if (!st.2 && !lt (kf o) (kf x)) = true then (st.1 ++ [x], true) else st
  if decide (kf o = kf x) = false then (a.1 ++ [o], a.2) else a
def sN [DecidableEq K] (lt : K → K → Bool) (kf : α → K) (z x : α) (O : List α) : Nat → List α × Bool
  | 0 => ([], false)
  | k + 1 => sstep lt kf x (sN lt kf z x O k) (O.getD k z)
def setR [DecidableEq K] (lt : K → K → Bool) (kf : α → K) (z x : α) (O : List α) : List α := if (sN lt kf z x O O.length).2 = true then (sN lt kf z x O O.length).1 else (sN lt kf z x O O.length).1 ++ [x]
theorem sN_few [DecidableEq K] (kf : α → K) (z x : α) (O : List α) : ∀ q, (sN lt kf z x O q).1.length ≤ q + (if (sN lt kf z x O q).2 = true then 1 else 0)
  | 0 => by simp [sN]
  | q + 1 => by
    have h := sN_few kf z x O q
    show (sstep lt kf x (sN lt kf z x O q) (O.getD q z)).1.length ≤ q + 1 + (if (sstep lt kf x (sN lt kf z x O q) (O.getD q z)).2 = true then 1 else 0)
    generalize O.getD q z = o
    unfold sstep
    cases h1 : (sN lt kf z x O q).2 <;> cases h2 : lt (kf o) (kf x) <;> by_cases h3 : kf o = kf x <;> simp [h1, h3] at h ⊢ <;> omega
theorem sN_all [DecidableEq K] (kf : α → K) (z x : α) (O : List α) : sN lt kf z x O O.length = O.foldl (sstep lt kf x) ([], false) := by
  have h : ∀ q, q ≤ O.length → sN lt kf z x O q = (O.take q).foldl (sstep lt kf x) ([], false) := by
    intro q
    induction q with
    | zero => intro _; rfl
    | succ q ih =>
      intro hq
      show sstep lt kf x (sN lt kf z x O q) (O.getD q z) = _
      rw [List.take_add_one, List.foldl_append, ih (by omega), List.getD_eq_getElem?_getD, List.getElem?_eq_getElem (by omega)]
      rfl
  rw [h _ (Nat.le_refl _), List.take_length]
theorem sfold_done [DecidableEq K] (ht : Strict lt) (kf : α → K) (x : α) : ∀ (O N : List α), (∀ o ∈ O, lt (kf o) (kf x) = false) → O.foldl (sstep lt kf x) (N, true) = (N ++ O.filter (fun o => lt (kf x) (kf o)), true)
  | [], N, _ => by simp
  | o :: O, N, h => by
    have h1 := h o (List.mem_cons_self ..)
    rw [List.foldl_cons]
    have hs : sstep lt kf x (N, true) o = (if lt (kf x) (kf o) = true then N ++ [o] else N, true) := by
      unfold sstep
      simp only [Bool.not_true, Bool.false_and]
      cases h2 : lt (kf x) (kf o) with
      | true =>
        have hne : ¬ kf o = kf x := fun e => by rw [e, ht.irr] at h2; cases h2
        simp [hne]
      | false =>
        have he : kf o = kf x := ht.tot _ _ h1 h2
        simp [he]
    rw [hs, sfold_done ht kf x O _ fun o ho => h o (List.mem_cons_of_mem _ ho), List.filter_cons]
    cases h2 : lt (kf x) (kf o) <;> simp
theorem sfold_open [DecidableEq K] (ht : Strict lt) (kf : α → K) (x : α) : ∀ (O N : List α), O.Pairwise (fun a b => lt (kf a) (kf b) = true) →
    (if (O.foldl (sstep lt kf x) (N, false)).2 = true then (O.foldl (sstep lt kf x) (N, false)).1 else (O.foldl (sstep lt kf x) (N, false)).1 ++ [x]) = N ++ (O.filter (fun o => lt (kf o) (kf x)) ++ x :: O.filter (fun o => lt (kf x) (kf o)))
  | [], N, _ => by simp
  | o :: O, N, h => by
    rw [List.pairwise_cons] at h
    obtain ⟨h1, h2⟩ := h
    rw [List.foldl_cons]
    cases h3 : lt (kf o) (kf x) with
    | true =>
      have h4 := ht.asym h3
      have hne : ¬ kf o = kf x := fun e => by rw [e, ht.irr] at h3; cases h3
      have hs : sstep lt kf x (N, false) o = (N ++ [o], false) := by
        unfold sstep
        simp [h3, hne]
      rw [hs, sfold_open ht kf x O _ h2, List.filter_cons, if_pos h3, List.filter_cons, if_neg (by rw [h4]; decide)]
      simp
    | false =>
      have hl : ∀ z ∈ O, lt (kf z) (kf x) = false := fun z hz => by
        cases h5 : lt (kf z) (kf x) with
        | false => rfl
        | true => rw [ht.tr _ _ _ (h1 z hz) h5] at h3; cases h3
      have hs : sstep lt kf x (N, false) o = (if lt (kf x) (kf o) = true then N ++ [x] ++ [o] else N ++ [x], true) := by
        unfold sstep
        simp only [h3, Bool.not_false, Bool.and_self, if_true]
        cases h2 : lt (kf x) (kf o) with
        | true =>
          have hne : ¬ kf o = kf x := fun e => by rw [e, ht.irr] at h2; cases h2
          simp [hne]
        | false =>
          have he : kf o = kf x := ht.tot _ _ h3 h2
          simp [he]
      rw [hs, sfold_done ht kf x O _ hl]
      simp only [if_true]
      have hn : (o :: O).filter (fun o => lt (kf o) (kf x)) = [] := List.filter_eq_nil_iff.2 fun z hz => by
        rcases List.mem_cons.1 hz with rfl | hz
        · rw [h3]; decide
        · rw [hl z hz]; decide
      rw [hn, List.filter_cons]
      cases h2 : lt (kf x) (kf o) <;> simp
theorem setR_eq [DecidableEq K] (ht : Strict lt) (kf : α → K) (z x : α) (O : List α) (h : O.Pairwise (fun a b => lt (kf a) (kf b) = true)) :
    setR lt kf z x O = O.filter (fun o => lt (kf o) (kf x)) ++ x :: O.filter (fun o => lt (kf x) (kf o)) := by
  unfold setR
  rw [sN_all, sfold_open ht kf x O [] h, List.nil_append]
theorem setR_few [DecidableEq K] (kf : α → K) (z x : α) (O : List α) : (setR lt kf z x O).length ≤ O.length + 1 := by
  have h := sN_few (lt := lt) kf z x O O.length
  unfold setR
  split
  · rename_i h1; rw [if_pos h1] at h; exact h
  · rename_i h1; rw [if_neg h1] at h; simp; omega
end
section
variable {K V : Type} {lt : K → K → Bool}
/-- A row put in its place. -/
def insK (lt : K → K → Bool) (l : List (K × V)) (r : K × V) : List (K × V) := l.filter (fun o => lt o.1 r.1) ++ r :: l.filter (fun o => lt r.1 o.1)
/-- A row joined to rows. -/
def withK [DecidableEq K] (lt : K → K → Bool) (op : V → V → V) (bare : V → Bool) (rows : List (K × V)) (r : K × V) : List (K × V) :=
  if bare r.2 = true then rows else match look rows r.1 with
    | some old => insK lt rows (r.1, op old r.2)
    | none => insK lt rows r
def joinedK [DecidableEq K] (lt : K → K → Bool) (op : V → V → V) (bare : V → Bool) (a b : List (K × V)) : List (K × V) := b.foldl (withK lt op bare) a
theorem with_asc [DecidableEq K] (ht : Strict lt) (op : V → V → V) (bare : V → Bool) {rows : List (K × V)} (h : KAsc lt rows) (r : K × V) : KAsc lt (withK lt op bare rows r) := by
  unfold withK
  split
  · exact h
  · split
    · exact ins_asc ht h _
    · exact ins_asc ht h _
theorem with_look [DecidableEq K] (ht : Strict lt) (op : V → V → V) (bare : V → Bool) (rows : List (K × V)) (r : K × V) (hb : bare r.2 = false) (k : K) : look (withK lt op bare rows r) k = if r.1 = k then jn op (look rows k) (some r.2) else look rows k := by
  unfold withK
  rw [if_neg (by rw [hb]; decide)]
  split
  · rename_i old ho
    unfold insK
    rw [ins_look ht (r.1, op old r.2) k]
    split
    · rename_i e
      simp only at e
      subst e
      rw [ho]; rfl
    · rfl
  · rename_i ho
    unfold insK
    rw [ins_look ht r k]
    split
    · rename_i e
      subst e
      rw [ho]; rfl
    · rfl
theorem joined_asc [DecidableEq K] (ht : Strict lt) (op : V → V → V) (bare : V → Bool) : ∀ {b a : List (K × V)}, KAsc lt a → KAsc lt (joinedK lt op bare a b)
  | [], _, h => h
  | r :: b, a, h => joined_asc ht op bare (b := b) (with_asc ht op bare h r)
theorem joined_look [DecidableEq K] (ht : Strict lt) (op : V → V → V) (bare : V → Bool) (k : K) : ∀ {b a : List (K × V)}, KAsc lt b → (∀ r ∈ b, bare r.2 = false) → look (joinedK lt op bare a b) k = jn op (look a k) (look b k)
  | [], a, _, _ => (jn_none op _).symm
  | r :: b, a, hb, hn => by
    have hb' := hb
    unfold KAsc at hb'
    rw [List.pairwise_cons] at hb'
    show look (joinedK lt op bare (withK lt op bare a r) b) k = _
    rw [joined_look ht op bare k hb'.2 (fun x hx => hn x (List.mem_cons_of_mem _ hx)), with_look ht op bare a r (hn r (List.mem_cons_self ..)) k, look_cons]
    split
    · rename_i e
      have h0 : look b k = none := look_none_iff.2 fun x hx e2 => by
        have h1 := hb'.1 x hx
        rw [e2, e, ht.irr] at h1
        cases h1
      rw [h0, jn_none]
    · rfl
/-- The document's way of putting two states together, and the one through both lists. -/
theorem joined_mrg [DecidableEq K] (ht : Strict lt) (op : V → V → V) (bare : V → Bool) {a b : List (K × V)} (ha : KAsc lt a) (hb : KAsc lt b) (hn : ∀ r ∈ b, bare r.2 = false) : joinedK lt op bare a b = mrg lt op a b :=
  look_ext ht (joined_asc ht op bare ha) (mrg_asc ht op _ a b (Nat.le_refl _) ha hb) fun k => by
    rw [joined_look ht op bare k hb hn, mrg_look ht op k _ a b (Nat.le_refl _) ha hb]
end
end Go.Proofs.Ytidbjmkfmfojdaa
end

section
namespace Go.Proofs.Ytidbjmkfmfojdaa
open Go.RowKit Go Go.Sort
set_option linter.unusedVariables false
set_option maxRecDepth 20000

set_option maxHeartbeats 3200000 in
theorem rless_c (n s a b : Int) (g : Bool) (t : List UInt8) (d e : Int) (n' s' a' b' : Int) (g' : Bool) (t' : List UInt8) (d' e' : Int) (w : World) : Calls Try.prog 137 #[.agg #[.int .i64 n, .int .i64 s, .int .i64 a, .int .i64 b, .bool g, .string (text t), .int .i64 d, .int .i64 e], .agg #[.int .i64 n', .int .i64 s', .int .i64 a', .int .i64 b', .bool g', .string (text t'), .int .i64 d', .int .i64 e']] w (Tells (.bool (lessS ⟨n, s, a, b, g, t, d, e⟩ ⟨n', s', a', b', g', t', d', e'⟩)) w) := by
  have hp := (Cel.new w n s a b g t d e).alloc (.cells #[.int .i64 n', .int .i64 s', .int .i64 a', .int .i64 b', .bool g', .string (text t'), .int .i64 d', .int .i64 e'] 75)
  have hq := Cel.new (w.alloc (.cells #[.int .i64 n, .int .i64 s, .int .i64 a, .int .i64 b, .bool g, .string (text t), .int .i64 d, .int .i64 e] 75)) n' s' a' b' g' t' d' e'
  rw [World.size_alloc] at hq
  have HB := Lib.hid ((alloc_below w (.cells #[.int .i64 n, .int .i64 s, .int .i64 a, .int .i64 b, .bool g, .string (text t), .int .i64 d, .int .i64 e] 75)).alloc (by simp) (.cells #[.int .i64 n', .int .i64 s', .int .i64 a', .int .i64 b', .bool g', .string (text t'), .int .i64 d', .int .i64 e'] 75))
  have HV := Lib.hid (show lessS ⟨n, s, a, b, g, t, d, e⟩ ⟨n', s', a', b', g', t', d', e'⟩ = if ((n == n') && (s == s')) = false then sless n s n' s' else if (g == g') = false then g' else if (t == t') = false then Op.bytesLess t t' else if (a == a') = false then decide (a < a') else decide (b < b') from rfl)
  obtain ⟨r, hr⟩ : ∃ r, lessS ⟨n, s, a, b, g, t, d, e⟩ ⟨n', s', a', b', g', t', d', e'⟩ = r := ⟨_, rfl⟩
  rw [hr] at HV ⊢
  have hng := stamp_eqg
  have hte := text_eqb t t'
  have htl := text_lss t t'
  obtain ⟨c0, c1, c2, c3, c4, c5, c6, c7⟩ := hp.cs
  obtain ⟨k0, k1, k2, k3, k4, k5, k6, k7⟩ := hq.cs
  obtain ⟨u, hu⟩ : ∃ u, text t = u := ⟨_, rfl⟩
  obtain ⟨v, hv⟩ : ∃ u, text t' = u := ⟨_, rfl⟩
  rw [hu, hv] at c0 c1 c2 c3 c4 c5 c6 c7 k0 k1 k2 k3 k4 k5 k6 k7 hte htl HB
  rw [hu, hv]
  clear hp hq hr hu hv
  cases q1 : ((n == n') && (s == s')) with
  | false =>
    have hne := stamp_neb n s n' s' _ q1
    rw [q1] at HV
    have HS := Lib.hid (fun W => rsless_c n s n' s' W)
    clear q1 hte htl
    go_enter Try.func137, Try.ntmps137
    go_wp2_with (go_at_call 143; (with_reducible refine (HS.out _).mono ?_); rintro e9 w9 ⟨rfl, hb9⟩)
    go_ret
    exact ⟨by rw [HV.out]; rfl, HB.out.trans (hb9.mono HB.out.size)⟩
  | true =>
    have hne := stamp_neb n s n' s' _ q1
    rw [q1] at HV
    clear q1
    cases q2 : (g == g') with
    | false =>
      rw [q2] at HV
      have q2' : (g != g') = true := by rw [bne, q2]; rfl
      clear hte htl
      go_enter Try.func137, Try.ntmps137
      go_wp2
      go_ret
      exact ⟨by rw [HV.out]; rfl, HB.out⟩
    | true =>
      rw [q2] at HV
      have q2' : (g != g') = false := by rw [bne, q2]; rfl
      skip
      cases q3 : (t == t') with
      | false =>
        rw [q3] at HV hte
        skip
        obtain ⟨q5, hq5⟩ : ∃ q, Op.bytesLess t t' = q := ⟨_, rfl⟩
        rw [hq5] at htl HV
        clear hq5
        go_enter Try.func137, Try.ntmps137
        go_wp2
        go_ret
        exact ⟨by rw [HV.out]; rfl, HB.out⟩
      | true =>
        rw [q3] at HV hte
        clear htl
        cases q4 : (a == a') with
        | false =>
          rw [q4] at HV
          have q4' : (a != a') = true := by rw [bne, q4]; rfl
          skip
          go_enter Try.func137, Try.ntmps137
          go_wp2
          go_ret
          exact ⟨by rw [HV.out]; rfl, HB.out⟩
        | true =>
          rw [q4] at HV
          have q4' : (a != a') = false := by rw [bne, q4]; rfl
          skip
          go_enter Try.func137, Try.ntmps137
          go_wp2
          go_ret
          exact ⟨by rw [HV.out]; rfl, HB.out⟩
end Go.Proofs.Ytidbjmkfmfojdaa
end

section
namespace Go.Proofs.Ytidbjmkfmfojdaa
open Go.RowKit Go Go.Sort
set_option linter.unusedVariables false
set_option maxRecDepth 20000

set_option maxHeartbeats 6400000 in
theorem rtwo_c (n s a b : Int) (g : Bool) (t : List UInt8) (d e : Int) (n' s' a' b' : Int) (g' : Bool) (t' : List UInt8) (d' e' : Int) (w : World) : Calls Try.prog 126 #[.agg #[.int .i64 n, .int .i64 s, .int .i64 a, .int .i64 b, .bool g, .string (text t), .int .i64 d, .int .i64 e], .agg #[.int .i64 n', .int .i64 s', .int .i64 a', .int .i64 b', .bool g', .string (text t'), .int .i64 d', .int .i64 e']] w (Tells (.agg (twoS ⟨n, s, a, b, g, t, d, e⟩ ⟨n', s', a', b', g', t', d', e'⟩).arr) w) := by
  have hp := (((Cel.new w n s a b g t d e).alloc (.cells #[.int .i64 n', .int .i64 s', .int .i64 a', .int .i64 b', .bool g', .string (text t'), .int .i64 d', .int .i64 e'] 75)).alloc (.cells #[.int .i64 0, .int .i64 0, .int .i64 0, .int .i64 0, .bool false, .string ⟨#[]⟩, .int .i64 0, .int .i64 0] 75)).alloc (.cells #[.int .i64 n, .int .i64 s, .int .i64 a, .int .i64 b, .bool g, .string (text t), .int .i64 d, .int .i64 e] 75)
  have hq := ((Cel.new (w.alloc (.cells #[.int .i64 n, .int .i64 s, .int .i64 a, .int .i64 b, .bool g, .string (text t), .int .i64 d, .int .i64 e] 75)) n' s' a' b' g' t' d' e').alloc (.cells #[.int .i64 0, .int .i64 0, .int .i64 0, .int .i64 0, .bool false, .string ⟨#[]⟩, .int .i64 0, .int .i64 0] 75)).alloc (.cells #[.int .i64 n, .int .i64 s, .int .i64 a, .int .i64 b, .bool g, .string (text t), .int .i64 d, .int .i64 e] 75)
  have hz := (Cel.new ((w.alloc (.cells #[.int .i64 n, .int .i64 s, .int .i64 a, .int .i64 b, .bool g, .string (text t), .int .i64 d, .int .i64 e] 75)).alloc (.cells #[.int .i64 n', .int .i64 s', .int .i64 a', .int .i64 b', .bool g', .string (text t'), .int .i64 d', .int .i64 e'] 75)) 0 0 0 0 false [] 0 0).alloc (.cells #[.int .i64 n, .int .i64 s, .int .i64 a, .int .i64 b, .bool g, .string (text t), .int .i64 d, .int .i64 e] 75)
  have ho := Cel.new (((w.alloc (.cells #[.int .i64 n, .int .i64 s, .int .i64 a, .int .i64 b, .bool g, .string (text t), .int .i64 d, .int .i64 e] 75)).alloc (.cells #[.int .i64 n', .int .i64 s', .int .i64 a', .int .i64 b', .bool g', .string (text t'), .int .i64 d', .int .i64 e'] 75)).alloc (.cells #[.int .i64 0, .int .i64 0, .int .i64 0, .int .i64 0, .bool false, .string ⟨#[]⟩, .int .i64 0, .int .i64 0] 75)) n s a b g t d e
  have hb := (((alloc_below w (.cells #[.int .i64 n, .int .i64 s, .int .i64 a, .int .i64 b, .bool g, .string (text t), .int .i64 d, .int .i64 e] 75)).alloc (by simp) (.cells #[.int .i64 n', .int .i64 s', .int .i64 a', .int .i64 b', .bool g', .string (text t'), .int .i64 d', .int .i64 e'] 75)).alloc (by simp; omega) (.cells #[.int .i64 0, .int .i64 0, .int .i64 0, .int .i64 0, .bool false, .string ⟨#[]⟩, .int .i64 0, .int .i64 0] 75)).alloc (by simp; omega) (.cells #[.int .i64 n, .int .i64 s, .int .i64 a, .int .i64 b, .bool g, .string (text t), .int .i64 d, .int .i64 e] 75)
  simp only [World.size_alloc] at hq hz ho
  have hnil : text ([] : List UInt8) = ⟨#[]⟩ := rfl
  rw [hnil] at hz
  have HL := fun W => rless_c n s a b g t d e n' s' a' b' g' t' d' e' W
  have HJ := Lib.hid (fun W => rvtwo_c d e d' e' W)
  have hT1 := fun (h : lessS ⟨n, s, a, b, g, t, d, e⟩ ⟨n', s', a', b', g', t', d', e'⟩ = true) {j k : Int} hj => twoS_true n s a b g t d e n' s' a' b' g' t' d' e' (j := j) (k := k) h hj
  have hT0 := fun (h : lessS ⟨n, s, a, b, g, t, d, e⟩ ⟨n', s', a', b', g', t', d', e'⟩ = false) {j k : Int} hj => twoS_false n s a b g t d e n' s' a' b' g' t' d' e' (j := j) (k := k) h hj
  obtain ⟨⟨j, k⟩, hj⟩ : ∃ q, joinS [(d, e), (d', e')] = q := ⟨_, rfl⟩
  rw [hj] at HJ
  replace hT1 := fun h => hT1 h hj
  replace hT0 := fun h => hT0 h hj
  obtain ⟨T, hT⟩ : ∃ q, twoS ⟨n, s, a, b, g, t, d, e⟩ ⟨n', s', a', b', g', t', d', e'⟩ = q := ⟨_, rfl⟩
  rw [hT] at hT1 hT0 ⊢
  obtain ⟨L, hL⟩ : ∃ q, lessS ⟨n, s, a, b, g, t, d, e⟩ ⟨n', s', a', b', g', t', d', e'⟩ = q := ⟨_, rfl⟩
  rw [hL] at hT1 hT0 HL
  replace HL := Lib.hid HL
  clear hj hT hL
  go_enter Try.func126, Try.ntmps126
  go_upto_region 2 with (fail)
  have HB := Lib.hid hb
  obtain ⟨B, hB⟩ : ∃ q, w.heap.size = q := ⟨_, rfl⟩
  rw [hB] at hp hq hz ho hb HB ⊢
  have HBle := Lib.hid hB
  clear hB
  generalize (((w.alloc (.cells #[.int .i64 n, .int .i64 s, .int .i64 a, .int .i64 b, .bool g, .string (text t), .int .i64 d, .int .i64 e] 75)).alloc (.cells #[.int .i64 n', .int .i64 s', .int .i64 a', .int .i64 b', .bool g', .string (text t'), .int .i64 d', .int .i64 e'] 75)).alloc (.cells #[.int .i64 0, .int .i64 0, .int .i64 0, .int .i64 0, .bool false, .string ⟨#[]⟩, .int .i64 0, .int .i64 0] 75)).alloc (.cells #[.int .i64 n, .int .i64 s, .int .i64 a, .int .i64 b, .bool g, .string (text t), .int .i64 d, .int .i64 e] 75) = W1 at *
  have HF := Lib.hid (And.intro hp (And.intro hq (And.intro hz ho)))
  clear hp hq hz ho hb
  cases L with
  | true =>
    have HT := Lib.hid (hT1 rfl)
    clear hT1 hT0
    obtain ⟨c0, c1, c2, c3, c4, c5, c6, c7⟩ := HF.out.1.cs
    obtain ⟨k0, k1, k2, k3, k4, k5, k6, k7⟩ := HF.out.2.1.cs
    have ofz := HF.out.2.2.2.fz
    go_upto_region 3 with (go_at_call 137; (with_reducible refine (HL.out _).mono ?_); rintro e9 w2 ⟨rfl, hb2⟩)
    replace HF := Lib.hid (And.intro (HF.out.1.kept hb2) (And.intro (HF.out.2.1.kept hb2) (And.intro (HF.out.2.2.1.kept hb2) (HF.out.2.2.2.kept hb2))))
    replace HB := Lib.hid (HB.out.trans (hb2.mono (by have := HB.out.size; have := HBle.out; omega)))
    clear hb2 c0 c1 c2 c3 c4 c5 c6 c7 k0 k1 k2 k3 k4 k5 k6 k7
    obtain ⟨c0, c1, c2, c3, c4, c5, c6, c7⟩ := HF.out.1.cs
    obtain ⟨k0, k1, k2, k3, k4, k5, k6, k7⟩ := HF.out.2.1.cs
    have ofz := HF.out.2.2.2.fz
    obtain ⟨o0, o1, o2, o3, o4, o5, o6, o7⟩ := HF.out.2.2.2.cs
    go_upto_region 4 with (fail)
    have hw := Wrote.of_put n s a b g t d e (Below.refl _ w2) HF.out.2.2.2 n' s' a' b' g' t' d' e'
    clear c0 c1 c2 c3 c4 c5 c6 c7 k0 k1 k2 k3 k4 k5 k6 k7 o0 o1 o2 o3 o4 o5 o6 o7 ofz
    have HF0 := HF.out.2.2.2
    obtain ⟨W3, hW3⟩ : ∃ W, ((((((((w2.setCell ⟨B + 1 + 1 + 1, 0, none⟩ (.int .i64 n')).setCell ⟨B + 1 + 1 + 1, 1, none⟩ (.int .i64 s')).setCell ⟨B + 1 + 1 + 1, 2, none⟩ (.int .i64 a')).setCell ⟨B + 1 + 1 + 1, 3, none⟩ (.int .i64 b')).setCell ⟨B + 1 + 1 + 1, 4, none⟩ (.bool g')).setCell ⟨B + 1 + 1 + 1, 5, none⟩ (.string (text t'))).setCell ⟨B + 1 + 1 + 1, 6, none⟩ (.int .i64 d')).setCell ⟨B + 1 + 1 + 1, 7, none⟩ (.int .i64 e')) = W := ⟨_, rfl⟩
    rw [hW3] at hw ⊢
    replace HF := Lib.hid (And.intro (hw.cel HF.out.1 (by omega)) (And.intro (hw.cel HF.out.2.1 (by omega)) (And.intro (hw.cel HF.out.2.2.1 (by omega)) (show Cel W3 (B + 1 + 1 + 1) n' s' a' b' g' t' d' e' from hw.cell))))
    replace HB := Lib.hid (HB.out.trans (hw.below (by omega) (Nat.le_of_lt HF0.lt)))
    clear hw hW3 HF0
    obtain ⟨c0, c1, c2, c3, c4, c5, c6, c7⟩ := HF.out.1.cs
    obtain ⟨k0, k1, k2, k3, k4, k5, k6, k7⟩ := HF.out.2.1.cs
    have ofz := HF.out.2.2.2.fz
    go_upto_region 5 with (go_at_call 138; (with_reducible refine (HJ.out _).mono ?_); rintro e9 w2 ⟨rfl, hb2⟩; obtain ⟨o0, o1, o2, o3, o4, o5, o6, o7⟩ := (HF.out.2.2.2.kept hb2).cs; have ofz := (HF.out.2.2.2.kept hb2).fz)
    replace HF := Lib.hid (And.intro (HF.out.1.kept hb2) (And.intro (HF.out.2.1.kept hb2) (And.intro (HF.out.2.2.1.kept hb2) (HF.out.2.2.2.kept hb2))))
    replace HB := Lib.hid (HB.out.trans (hb2.mono (by have := HB.out.size; have := HBle.out; omega)))
    clear hb2 c0 c1 c2 c3 c4 c5 c6 c7 k0 k1 k2 k3 k4 k5 k6 k7
    have hw := Wrote.of_dead n' s' a' b' g' t' d' e' (Below.refl _ w2) HF.out.2.2.2 j k
    have HF0 := HF.out.2.2.2
    obtain ⟨W3, hW3⟩ : ∃ W, ((w2.setCell ⟨B + 1 + 1 + 1, 6, none⟩ (.int .i64 j)).setCell ⟨B + 1 + 1 + 1, 7, none⟩ (.int .i64 k)) = W := ⟨_, rfl⟩
    rw [hW3] at hw ⊢
    replace HF := Lib.hid (And.intro (hw.cel HF.out.2.2.1 (by omega)) (show Cel W3 (B + 1 + 1 + 1) n' s' a' b' g' t' j k from hw.cell))
    replace HB := Lib.hid (HB.out.trans (hw.below (by omega) (Nat.le_of_lt HF0.lt)))
    clear hw hW3 HF0
    obtain ⟨o0, o1, o2, o3, o4, o5, o6, o7⟩ := HF.out.2.cs
    obtain ⟨z0, z1, z2, z3, z4, z5, z6, z7⟩ := HF.out.1.cs
    have zfz := HF.out.1.fz
    go_wp2
    refine bodyPost_ret (results_cell_row rfl _ _ (B + 1 + 1) 75 _ (0, 0) _ rfl (HF.out.1.put n' s' a' b' g' t' j k) Try.underlying75 rfl (sizeC n' s' a' b' g' t' j k)) rfl ⟨by rw [HT.out]; rfl, put_below (HB.out.mono (Nat.le_of_eq HBle.out)) (by have := HBle.out; omega) n' s' a' b' g' t' j k⟩
  | false =>
    have HT := Lib.hid (hT0 rfl)
    clear hT1 hT0
    obtain ⟨c0, c1, c2, c3, c4, c5, c6, c7⟩ := HF.out.1.cs
    obtain ⟨k0, k1, k2, k3, k4, k5, k6, k7⟩ := HF.out.2.1.cs
    have ofz := HF.out.2.2.2.fz
    go_upto_region 4 with (go_at_call 137; (with_reducible refine (HL.out _).mono ?_); rintro e9 w2 ⟨rfl, hb2⟩)
    replace HF := Lib.hid (And.intro (HF.out.1.kept hb2) (And.intro (HF.out.2.1.kept hb2) (And.intro (HF.out.2.2.1.kept hb2) (HF.out.2.2.2.kept hb2))))
    replace HB := Lib.hid (HB.out.trans (hb2.mono (by have := HB.out.size; have := HBle.out; omega)))
    clear hb2 c0 c1 c2 c3 c4 c5 c6 c7 k0 k1 k2 k3 k4 k5 k6 k7
    obtain ⟨c0, c1, c2, c3, c4, c5, c6, c7⟩ := HF.out.1.cs
    obtain ⟨k0, k1, k2, k3, k4, k5, k6, k7⟩ := HF.out.2.1.cs
    have ofz := HF.out.2.2.2.fz
    go_upto_region 5 with (go_at_call 138; (with_reducible refine (HJ.out _).mono ?_); rintro e9 w2 ⟨rfl, hb2⟩; obtain ⟨o0, o1, o2, o3, o4, o5, o6, o7⟩ := (HF.out.2.2.2.kept hb2).cs; have ofz := (HF.out.2.2.2.kept hb2).fz)
    replace HF := Lib.hid (And.intro (HF.out.1.kept hb2) (And.intro (HF.out.2.1.kept hb2) (And.intro (HF.out.2.2.1.kept hb2) (HF.out.2.2.2.kept hb2))))
    replace HB := Lib.hid (HB.out.trans (hb2.mono (by have := HB.out.size; have := HBle.out; omega)))
    clear hb2 c0 c1 c2 c3 c4 c5 c6 c7 k0 k1 k2 k3 k4 k5 k6 k7
    have hw := Wrote.of_dead n s a b g t d e (Below.refl _ w2) HF.out.2.2.2 j k
    have HF0 := HF.out.2.2.2
    obtain ⟨W3, hW3⟩ : ∃ W, ((w2.setCell ⟨B + 1 + 1 + 1, 6, none⟩ (.int .i64 j)).setCell ⟨B + 1 + 1 + 1, 7, none⟩ (.int .i64 k)) = W := ⟨_, rfl⟩
    rw [hW3] at hw ⊢
    replace HF := Lib.hid (And.intro (hw.cel HF.out.2.2.1 (by omega)) (show Cel W3 (B + 1 + 1 + 1) n s a b g t j k from hw.cell))
    replace HB := Lib.hid (HB.out.trans (hw.below (by omega) (Nat.le_of_lt HF0.lt)))
    clear hw hW3 HF0
    obtain ⟨o0, o1, o2, o3, o4, o5, o6, o7⟩ := HF.out.2.cs
    obtain ⟨z0, z1, z2, z3, z4, z5, z6, z7⟩ := HF.out.1.cs
    have zfz := HF.out.1.fz
    go_wp2
    refine bodyPost_ret (results_cell_row rfl _ _ (B + 1 + 1) 75 _ (0, 0) _ rfl (HF.out.1.put n s a b g t j k) Try.underlying75 rfl (sizeC n s a b g t j k)) rfl ⟨by rw [HT.out]; rfl, put_below (HB.out.mono (Nat.le_of_eq HBle.out)) (by have := HBle.out; omega) n s a b g t j k⟩

end Go.Proofs.Ytidbjmkfmfojdaa
end

section
namespace Go.Proofs.Ytidbjmkfmfojdaa
open Go.RowKit Go Go.Sort
set_option linter.unusedVariables false
set_option maxRecDepth 20000

theorem OwnS.ins {W : World} {B0 B : Nat} {v : Value} {L : List Rw} (h : OwnS W B0 B v L) : ∃ a cap, v = .slice a L.length cap ∧ RwsIn W B0 a L.length cap L := by
  obtain ⟨a, cap, ev, hl⟩ := h.row.ls (z := Rw.zero) rw_size
  exact ⟨a, cap, ev, hl, h.has⟩
theorem RwsAt.ins {W : World} {a : Option Addr} {m cap : Nat} {L : List Rw} (h : RwsAt W a m cap L) {B : Nat} (hB : W.heap.size ≤ B) : RwsIn W B a m cap L := by
  refine ⟨h.1, fun r hr => ?_⟩
  obtain ⟨j, hj, rfl⟩ := List.getElem_of_mem hr
  obtain ⟨a', c, e, hc⟩ := h.2 j (by have := h.1.len; omega)
  rw [List.getD_eq_getElem?_getD, List.getElem?_eq_getElem hj] at e hc
  refine ⟨a', c, e, hc, fun hp q off ea => .inl ?_⟩
  subst ea
  exact Nat.lt_of_lt_of_le (hc.lt hp) hB
end Go.Proofs.Ytidbjmkfmfojdaa
end

section
namespace Go.Proofs.Ytidbjmkfmfojdaa
open Go.RowKit Go Go.Sort
set_option linter.unusedVariables false
set_option maxRecDepth 20000

theorem m_inv {gs : List Grp} {R : List Rp} (h : mgoodS gs R = 0) : pgoodS gs = 0 ∧ ∀ k, k < R.length → mAt gs R k = 0 := by
  unfold mgoodS at h
  by_cases hp : pgoodS gs = 0
  · refine ⟨hp, fun k hk => ?_⟩
    rw [if_neg (not_not_intro hp)] at h
    cases hf : ((List.range R.length).map (mAt gs R)).find? (fun e => decide (e ≠ 0)) with
    | none =>
      have := List.find?_eq_none.1 hf (mAt gs R k) (List.mem_map.2 ⟨k, List.mem_range.2 hk, rfl⟩)
      simpa using this
    | some e =>
      rw [hf] at h
      have := List.find?_some hf
      simp only [Option.getD_some] at h
      rw [h] at this
      simp at this
  · rw [if_pos hp] at h; exact absurd h hp
theorem asc_of_next {R : List Rp} (h : ∀ i, i + 1 < R.length → Op.bytesLess (R.getD i ([], [])).1 (R.getD (i + 1) ([], [])).1 = true) : KAsc Op.bytesLess R := by
  unfold KAsc
  rw [List.pairwise_iff_getElem]
  have g : ∀ i (hi : i < R.length), R.getD i ([], []) = R[i] := fun i hi => by rw [List.getD_eq_getElem?_getD, List.getElem?_eq_getElem hi]; rfl
  have key : ∀ d i, i + d + 1 < R.length → Op.bytesLess (R.getD i ([], [])).1 (R.getD (i + d + 1) ([], [])).1 = true := by
    intro d
    induction d with
    | zero => exact fun i hi => h i hi
    | succ d ih => exact fun i hi => strictT.tr _ _ _ (ih i (by omega)) (h (i + d + 1) (by omega))
  intro i j hi hj hij
  have := key (j - i - 1) i (by omega)
  rw [show i + (j - i - 1) + 1 = j by omega, g i hi, g j hj] at this
  exact this
theorem next_of_asc {R : List Rp} (h : KAsc Op.bytesLess R) {i : Nat} (hi : i + 1 < R.length) : Op.bytesLess (R.getD i ([], [])).1 (R.getD (i + 1) ([], [])).1 = true := by
  have hp := List.pairwise_iff_getElem.1 h i (i + 1) (by omega) hi (by omega)
  rw [List.getD_eq_getElem?_getD, List.getD_eq_getElem?_getD, List.getElem?_eq_getElem (show i < _ by omega), List.getElem?_eq_getElem hi]
  exact hp
theorem mgood_iff {gs : List Grp} {R : List Rp} : mgoodS gs R = 0 ↔ IsSt gs R := by
  have g : ∀ i (hi : i < R.length), R.getD i ([], []) = R[i] := fun i hi => by rw [List.getD_eq_getElem?_getD, List.getElem?_eq_getElem hi]; rfl
  constructor
  · intro h
    obtain ⟨hp, ha⟩ := m_inv h
    refine ⟨hp, asc_of_next fun i hi => ?_, fun r hr => ?_, fun r hr => ?_⟩
    · exact (mAt_zero.1 (ha (i + 1) hi)).2.2 (by omega)
    · obtain ⟨i, hi, rfl⟩ := List.getElem_of_mem hr
      have := (mAt_zero.1 (ha i hi)).1
      rwa [g i hi] at this
    · obtain ⟨i, hi, rfl⟩ := List.getElem_of_mem hr
      have := (mAt_zero.1 (ha i hi)).2.1
      rwa [g i hi] at this
  · intro h
    refine m_yes h.pol fun i hi => mAt_zero.2 ⟨?_,?_, fun h0 => ?_⟩
    · rw [g i hi]; exact h.good _ (List.getElem_mem hi)
    · rw [g i hi]; exact h.bare _ (List.getElem_mem hi)
    · have := next_of_asc h.asc (i := i - 1) (by omega)
      rwa [show i - 1 + 1 = i by omega] at this
end Go.Proofs.Ytidbjmkfmfojdaa
end

section
namespace Go.Proofs.Ytidbjmkfmfojdaa
open Go.RowKit Go Go.Sort
set_option linter.unusedVariables false
set_option maxRecDepth 20000

/-- append(nil, cs...), cells onto none. -/
theorem wpList_append_cells {w : World} {ops : Array Oper} {rest : List Oper} {o : Oper} {ac : Act} {Q : Exit → Act → World → Prop} (hgd : o.guard = none) (os ox : Operand)
    (ho : o.op = .call { callee := .builtin .append, args := #[os, ox], argTypes := #[28, 28] })
    {base : Nat} (hs : ac.eval os = .slice none 0 0) {x : Option Addr} {m cap : Nat} {cs : List Cl} (hx : ac.eval ox = .slice x m cap) (hl : Cls w x m cap cs) (hm : m ≤ 1000000) (hbase : base ≤ w.heap.size)
    (h : ∀ v' w', OwnC w' base v' cs → w.grownBy w' none → wpList Try.prog ops Q rest (ac.put o.dst v') w') :
    wpList Try.prog ops Q (o :: rest) ac w := by
  obtain ⟨i0, hi, hz0, hz1, hz2⟩ := info_parts Try.infoC
  have hll := hl.len
  rcases hl.src with ⟨hc, h0⟩ | ⟨a, rfl, hsrc⟩
  · have hcs : cs = [] := List.eq_nil_of_length_eq_zero (by omega)
    subst h0 hcs
    refine wpList_plain hgd fun K hK => ?_
    have hsr : Src Try.prog i0.size 28 (.slice x 0 cap) 0 [] w := by
      cases x with
      | none => exact Src.ofNil w Try.underlying28 cap
      | some a => exact Src.ofSlice w Try.underlying28 a 0 cap [] (by simp) (by simp) (by simp)
    have hr := run_append_zero (P := Try.prog) w 28 28 o.type 75 i0 Try.underlying28 hi (.slice x 0 cap) hsr
    unfold Oper.wp execOp
    simp only [ho, resolve, invoke, builtin, Sem.run_bind, Sem.run_pure, Result.andThen_ok, List.map_toArray, List.map_cons, List.map_nil, hs, hx, hr]
    exact hK _ _ (h _ _ (OwnC.nil _ _) (World.grownBy.refl _ _))
  · refine wpList_append_own_wide (P := Try.prog) w hgd os ox 28 ho base 75 i0 _ 8 72 Try.underlying28 hi hz0 hz1 hz2 rfl (by decide) (.slice none 0 0) 0 [] hs (World.ownsRow_nil _ _ _ _)
      a m cap (cCells cs) hx (by rw [cCells_length, hll]) hsrc (cCells_one cs) (by unfold maxLen; omega) (by omega) hbase ?_
    intro v' w' h2 h3 _
    refine h v' w' ?_ h3
    unfold OwnC
    rw [hll]
    simpa using h2

set_option maxRecDepth 100000 in
set_option maxHeartbeats 3200000 in
theorem rcopy_c {w : World} {x : Option Addr} {m cap : Nat} {cs : List Cl} (hl : Cls w x m cap cs) (hm : m ≤ 1000000) (key : ByteArray) :
    Calls Try.prog 45 #[.agg #[.string key, .slice x m cap]] w (fun e w' => ∃ v, e = .returned (.agg #[.string key, v]) ∧ OwnC w' w.heap.size v cs ∧ Below w.heap.size w w') := by
  have hb := (alloc_below w (.cells #[.string key, .slice x m cap] 30)).alloc (by simp) (.cells #[.string ⟨#[]⟩, .slice none 0 0] 30)
  have hr0 : ((w.alloc (.cells #[.string key, .slice x m cap] 30)).alloc (.cells #[.string ⟨#[]⟩, .slice none 0 0] 30)).heap[w.heap.size]? = some (.cells #[.string key, .slice x m cap] 30 (0, 0)) := (Below.heap_alloc _ _ _ (by simp)).trans (heap_alloc_new w _)
  have hr1 := heap_alloc_new (w.alloc (.cells #[.string key, .slice x m cap] 30)) (.cells #[.string ⟨#[]⟩, .slice none 0 0] 30)
  rw [World.size_alloc] at hr1
  have HL := Lib.hid hl
  clear hl
  go_enter Try.func45, Try.ntmps45
  go_upto_region 1 with (fail)
  obtain ⟨B, hB⟩ : ∃ q, w.heap.size = q := ⟨_, rfl⟩
  have HBe := Lib.hid hB
  rw [hB] at hr0 hr1 ⊢
  clear hB
  generalize (w.alloc (.cells #[.string key, .slice x m cap] 30)).alloc (.cells #[.string ⟨#[]⟩, .slice none 0 0] 30) = W1 at *
  obtain ⟨r0, r1, -⟩ := row_cells hr0
  have HR0 := Lib.hid hr0
  have HR1 := Lib.hid hr1
  have HB1 := Lib.hid hb
  clear hr0 hr1 hb
  go_upto_region 2 with (fail)
  have hal := alloc_below W1 (.cells #[.string key, .slice none 0 0] 30)
  have hn := heap_alloc_new W1 (.cells #[.string key, .slice none 0 0] 30)
  have HB2 := Lib.hid (HB1.out.trans (hal.mono HB1.out.size))
  have hr0 := heap_below HR0.out hal
  have hr1 := heap_below HR1.out hal
  have hql : B + 1 < W1.heap.size := (Array.getElem?_eq_some_iff.1 HR1.out).1
  obtain ⟨q, hq⟩ : ∃ q, W1.heap.size = q := ⟨_, rfl⟩
  rw [hq] at hn hql ⊢
  generalize W1.alloc (.cells #[.string key, .slice none 0 0] 30) = W2 at *
  clear hal hq HR0 HR1 HB1 r0 r1
  obtain ⟨r0, r1, -⟩ := row_cells hr0
  obtain ⟨n0, n1, nf⟩ := row_cells hn
  have HN := Lib.hid hn
  have HR1 := Lib.hid hr1
  have HQL := Lib.hid hql
  have HLW := Lib.hid (HL.out.below HB2.out)
  clear hn hr1 hql
  go_upto_region 3 with (at_builtin; refine wpList_append_cells rfl (.tmp 8) (.tmp 10) rfl rfl rfl HLW.out hm HB2.out.size ?_; intro v3 w3 ho3 hg3; have HN3 := Lib.hid (heap_grown HN.out hg3 (by simp)); obtain ⟨m0, m1, mf⟩ := row_cells HN3.out; have HO3 := Lib.hid ho3; have HB3 := Lib.hid (HB2.out.grown hg3 HB2.out.size (fun k e => by cases e)); have HR3 := Lib.hid (heap_grown HR1.out hg3 (by simp)); obtain ⟨a3, c3, rfl, -⟩ := ho3.cls; clear hg3 ho3)
  clear HN HR1 HLW HB2 HL r0 r1 n0 n1 nf m0 m1 mf
  have hqw := HQL.out
  have hn4 : (w3.setCell ⟨q, 1, none⟩ (.slice a3 cs.length c3)).heap[q]? = some (.cells #[.string key, .slice a3 cs.length c3] 30 (0, 0)) := (heap_setCell_same w3 q 1 _ _ _ HN3.out).trans rfl
  have hr4 : (w3.setCell ⟨q, 1, none⟩ (.slice a3 cs.length c3)).heap[B + 1]? = some (.cells #[.string ⟨#[]⟩, .slice none 0 0] 30 (0, 0)) := (Below.heap_setCell w3 ⟨q, 1, none⟩ _ (B + 1) (by simp; omega)).trans HR3.out
  have ho4 : OwnC (w3.setCell ⟨q, 1, none⟩ (.slice a3 cs.length c3)) w.heap.size (.slice a3 cs.length c3) cs := own_set HN3.out (by decide) HO3.out
  have HB4 := Lib.hid (HB3.out.setCell (p := ⟨q, 1, none⟩) (by have := HBe.out; simp; omega) (.slice a3 cs.length c3))
  generalize w3.setCell ⟨q, 1, none⟩ (.slice a3 cs.length c3) = W4 at *
  obtain ⟨n0, n1, -⟩ := row_cells hn4
  obtain ⟨z0, z1, zf⟩ := row_cells hr4
  have HS := Lib.hid (row_set hr4 key (.slice a3 cs.length c3))
  have HR4 := Lib.hid hr4
  have HO4 := Lib.hid ho4
  clear hn4 hr4 ho4 HN3 HR3 HO3 HB3 hqw HQL
  go_wp2
  refine bodyPost_ret (results_cell_row rfl _ _ (B + 1) 30 _ (0, 0) _ rfl HS.out Try.underlying30 rfl (by kernel_rfl)) rfl ⟨_, rfl, ?_, (HB4.out.setCell (p := ⟨B + 1, 0, none⟩) (by have := HBe.out; simp; omega) _).setCell (p := ⟨B + 1, 1, none⟩) (by have := HBe.out; simp; omega) _⟩
  exact own_set (i := 1) (show (W4.setCell ⟨B + 1, 0, none⟩ (.string key)).heap[B + 1]? = _ from (heap_setCell_same _ _ 0 _ _ _ HR4.out).trans rfl) (by decide) (own_set (i := 0) HR4.out (by decide) HO4.out)
end Go.Proofs.Ytidbjmkfmfojdaa
end

section
namespace Go.Proofs.Ytidbjmkfmfojdaa
open Go.RowKit Go Go.Sort
set_option linter.unusedVariables false
set_option maxRecDepth 20000

/-- append of one row, its key's bytes under a name. -/
theorem wpList_append_rwt {w : World} {ops : Array Oper} {rest : List Oper} {o : Oper} {ac : Act} {Q : Exit → Act → World → Prop} (hgd : o.guard = none) (os ox : Operand)
    (ho : o.op = .call { callee := .builtin .append, args := #[os, ox], argTypes := #[27, 27] })
    {base : Nat} {u : Value} {l : List Rw} (hs : ac.eval os = u) (hown : OwnL 2 30 Rw.arr w base u l) (t : ByteArray) {k : List UInt8} (ht : text k = t) (a9 : Option Addr) (n9 c9 : Nat) (cs : List Cl) {e9 : TypeId}
    (hx : ac.eval ox = .slice (some ⟨w.heap.size, 0, none⟩) 1 1) (h63 : l.length ≤ 1000000000) (hbase : base ≤ w.heap.size)
    (h : ∀ v' w', OwnL 2 30 Rw.arr w' base v' (l ++ [⟨k, .slice a9 n9 c9, cs⟩]) → (w.alloc (.cells #[.string t, .slice a9 n9 c9] e9)).grownBy w' u.ownBlock → wpList Try.prog ops Q rest (ac.put o.dst v') w') :
    wpList Try.prog ops Q (o :: rest) ac (w.alloc (.cells #[.string t, .slice a9 n9 c9] e9)) := by
  subst ht
  exact wpList_append_rw hgd os ox ho hs hown k a9 n9 c9 cs hx h63 hbase h
/-- What Set tells. -/
def SetPost (R : List Rp) (B0 : Nat) (w : World) (e : Ending) (w' : World) : Prop := ∃ v NN, e = .returned v ∧ NN.map Rw.pr = R ∧ OwnS w' B0 w.heap.size v NN ∧ Below w.heap.size w w'

set_option maxRecDepth 100000 in
set_option maxHeartbeats 12800000 in
theorem rset_c {w : World} {x x2 : Option Addr} {m cap n2 c2 B0 : Nat} {L : List Rw} {cs : List Cl} (hl : RwsIn w B0 x m cap L) (hB0 : B0 ≤ w.heap.size) (hm : m ≤ 1000000) (hc : Cls w x2 n2 c2 cs) (hn2 : n2 ≤ 1000000) (kr : List UInt8) :
    Calls Try.prog 16 #[.slice x m cap, .agg #[.string (text kr), .slice x2 n2 c2]] w (SetPost (setR Op.bytesLess Prod.fst ([], []) (kr, cs) (L.map Rw.pr)) B0 w) := by
  have hll := hl.1.len
  have hle := hl.1.le
  have hmax := hl.1.max
  obtain ⟨tr, htr⟩ : ∃ z, text kr = z := ⟨_, rfl⟩
  rw [htr]
  have HTR := Lib.hid htr
  have hb := alloc_below w (.cells #[.string tr, .slice x2 n2 c2] 30)
  have hr := heap_alloc_new w (.cells #[.string tr, .slice x2 n2 c2] 30)
  have hsz : (w.alloc (.cells #[.string tr, .slice x2 n2 c2] 30)).heap.size = w.heap.size + 1 := by simp
  have HCP := Lib.hid (fun W (h : Below w.heap.size w W) => rcopy_c (hc.below h) hn2 tr)
  have HL := Lib.hid hl
  obtain ⟨O, hO⟩ : ∃ z, L.map Rw.pr = z := ⟨_, rfl⟩
  have hOl : O.length = m := by rw [← hO, List.length_map, hll]
  have HOD := Lib.hid (show ∀ q, q < m → O.getD q ([], []) = (L.getD q Rw.zero).pr from fun q hq => by rw [← hO]; exact prs_at (by omega))
  have HOL := Lib.hid hOl
  rw [hO]
  clear hO hOl htr hl hll hc
  go_enter Try.func16, Try.ntmps16
  go_upto_region 1 with (fail)
  obtain ⟨B, hB⟩ : ∃ q, w.heap.size = q := ⟨_, rfl⟩
  have HBe := Lib.hid hB
  rw [hB] at hr hsz ⊢
  clear hB
  generalize w.alloc (.cells #[.string tr, .slice x2 n2 c2] 30) = W1 at *
  have HSZ := Lib.hid hsz
  have HB1 := Lib.hid hb
  have HRW := Lib.hid (fun W (h : Below W1.heap.size W1 W) => row_cells (heap_below hr h))
  clear hb hr hsz
  go_wp2
  go_loopw [5, 6, 7] (fun nx dn j wr => ∃ (q : Nat) (v : Value) (NN : List Rw) (DN : Bool), q ≤ m ∧ j = .int .i64 (q : Int) ∧ nx = v ∧ dn = .bool DN ∧ sN Op.bytesLess Prod.fst ([], []) (kr, cs) O q = (NN.map Rw.pr, DN) ∧ OwnS wr B0 (B + 1) v NN ∧ Below W1.heap.size W1 wr) (fun _ _ j _ => m - (intOf j).toNat)
  case atStart => exact ⟨0, .slice none 0 0, [], false, by omega, rfl, rfl, rfl, rfl, OwnS.nil _ (by have := HBe.out; omega), Below.refl _ _⟩
  case round =>
    obtain ⟨q, v, NN, DN, hq, rfl, rfl, rfl, hcn, hn, hbx⟩ := hrel
    have hnf := sN_few (lt := Op.bytesLess) Prod.fst ([], []) (kr, cs) O q
    rw [hcn] at hnf
    have hnf2 : NN.length ≤ q + 1 := by
      simp only [List.length_map] at hnf
      cases DN <;> simp at hnf <;> omega
    clear hnf
    obtain ⟨an, cn, ev, -⟩ := hn.ins
    obtain ⟨nl, hnl⟩ : ∃ z, NN.length = z := ⟨_, rfl⟩
    rw [hnl] at ev hnf2
    subst ev
    have HNE := Lib.hid hnl
    have HNL := Lib.hid (show nl ≤ q + 1 from hnf2)
    have HNx := Lib.hid hn
    have HBx := Lib.hid hbx
    have HCQ := Lib.hid hcn
    clear hnl hnf2 hn hbx hcn
    by_cases hlq : q < m
    · have hqi : (q : Int) < (m : Int) := by omega
      have hqc : (q : Int) < (cap : Int) := by omega
      obtain ⟨bo, offo, ao, no, co, rfl, eu, eno, hco, hro, hat⟩ := HL.out.place hlq
      have hod := HOD.out q hlq
      obtain ⟨y, hy⟩ : ∃ y, L.getD q Rw.zero = y := ⟨_, rfl⟩
      rw [hy] at hat hod eu eno hro hco
      obtain ⟨ko, uo, cso⟩ := y
      simp only at hat eu eno hco
      subst eu
      obtain ⟨to, hto⟩ : ∃ z, text ko = z := ⟨_, rfl⟩
      rw [hto] at hat
      have HTO := Lib.hid hto
      have HOW := Lib.hid (fun W (h : Below W1.heap.size W1 W) => hat W (HB1.out.trans (h.mono HB1.out.size)))
      have hro1 := hro
      have HRO0 := Lib.hid hro
      have hcs : sN Op.bytesLess Prod.fst ([], []) (kr, cs) O (q + 1) = sstep Op.bytesLess Prod.fst (kr, cs) (NN.map Rw.pr, DN) (ko, cso) := by
        show sstep _ _ _ (sN Op.bytesLess Prod.fst ([], []) (kr, cs) O q) (O.getD q ([], [])) = _
        rw [HCQ.out, hod]; rfl
      unfold sstep at hcs
      simp only at hcs
      have hte := text_eqb ko kr
      have htl := text_lss ko kr
      rw [hto, HTR.out] at hte htl
      obtain ⟨BL, hBL⟩ : ∃ z, Op.bytesLess ko kr = z := ⟨_, rfl⟩
      obtain ⟨EQ, hEQ⟩ : ∃ z, (ko == kr) = z := ⟨_, rfl⟩
      have hdec : decide (ko = kr) = EQ := by
        rw [← hEQ]
        by_cases e : ko = kr
        · subst e; simp
        · simp [e]
      rw [hBL, hdec] at hcs
      rw [hBL] at htl
      rw [hEQ] at hte
      have HCN := Lib.hid hcs
      have HRO := Lib.hid (fun W (h : Below W1.heap.size W1 W) => hro1.kept (HB1.out.trans (h.mono HB1.out.size)))
      clear hat hy hBL hEQ hdec hcs HCQ hto hro hro1 HRO0 hod hco eno
      go_upto_region 6 with (fail)
      cases DN with
      | true =>
        refine wp_region_flow [none,none,none,none,none,none,none,none,none,none,none,none,none,none, some 0, some 1, some 2, some 3, some 4, some 5, some 6, some 7, some 8, some 9, some 10, some 11, none,none,none,none,none,none,none,none,none,none,none,none,none,none,none,none,none,none,none,none,none,none,none,none,none,none,none,none] (fun i => [u14, u15, u16, u17, u18, u19, u20, u21, u22, u23, u24, u25].getD i undef) [(fun v _ => v = .bool true), (fun v _ => v = .bool false), (fun v _ => v = .bool false), (fun v _ => v = undef), (fun v _ => v = undef), (fun v _ => v = undef), (fun v _ => v = undef), (fun v _ => v = undef), (fun v _ => v = undef), (fun v _ => v = undef), (fun v _ => v = undef), (fun v _ => v = .bool false)] (by kernel_rfl) (by kernel_rfl) rfl rfl rfl ?_ ?_ ?_
        · intro g hg v X Y hX hY hv
          simp only [List.mem_cons, List.not_mem_nil, or_false] at hg
          rcases hg with rfl | rfl | rfl | rfl | rfl | rfl | rfl | rfl | rfl | rfl | rfl | rfl
          all_goals first
            | exact hv
            | exact hv.kept hY
        · simp only [flowOps, and_true]
          refine ⟨?_,?_,?_,?_,?_,?_,?_,?_,?_,?_,?_,?_⟩
          · intro xs W hW hn
            simp only [flowAct, zwc, zwn]
            go_wp2_with (fail)
            exact ⟨rfl, _, rfl, Below.refl _ _, rfl⟩
          · intro xs W hW hn
            simp [flowNeeds, Region.binds] at hn
            simp only [flowAct, zwc, zwn]
            try simp only [hn]
            go_wp2_with (fail)
            exact ⟨rfl, _, rfl, Below.refl _ _, rfl⟩
          · intro xs W hW hn
            simp [flowNeeds, Region.binds] at hn
            simp only [flowAct, zwc, zwn]
            try simp only [hn]
            go_wp2_with (fail)
            exact ⟨rfl, _, rfl, Below.refl _ _, rfl⟩
          · intro xs W hW hn
            simp [flowNeeds, Region.binds] at hn
            simp only [flowAct, zwc, zwn]
            try simp only [hn]
            go_wp2_with (fail)
            exact ⟨rfl, _, rfl, Below.refl _ _, rfl⟩
          · intro xs W hW hn
            simp [flowNeeds, Region.binds] at hn
            simp only [flowAct, zwc, zwn]
            try simp only [hn]
            go_wp2_with (fail)
            exact ⟨rfl, _, rfl, Below.refl _ _, rfl⟩
          · intro xs W hW hn
            simp [flowNeeds, Region.binds] at hn
            simp only [flowAct, zwc, zwn]
            try simp only [hn]
            go_wp2_with (fail)
            exact ⟨rfl, _, rfl, Below.refl _ _, rfl⟩
          · intro xs W hW hn
            simp [flowNeeds, Region.binds] at hn
            simp only [flowAct, zwc, zwn]
            try simp only [hn]
            go_wp2_with (fail)
            exact ⟨rfl, _, rfl, Below.refl _ _, rfl⟩
          · intro xs W hW hn
            simp [flowNeeds, Region.binds] at hn
            simp only [flowAct, zwc, zwn]
            try simp only [hn]
            go_wp2_with (fail)
            exact ⟨rfl, _, rfl, Below.refl _ _, rfl⟩
          · intro xs W hW hn
            simp [flowNeeds, Region.binds] at hn
            simp only [flowAct, zwc, zwn]
            try simp only [hn]
            go_wp2_with (fail)
            exact ⟨rfl, _, rfl, Below.refl _ _, rfl⟩
          · intro xs W hW hn
            simp [flowNeeds, Region.binds] at hn
            simp only [flowAct, zwc, zwn]
            try simp only [hn]
            go_wp2_with (fail)
            exact ⟨rfl, _, rfl, Below.refl _ _, rfl⟩
          · intro xs W hW hn
            simp [flowNeeds, Region.binds] at hn
            simp only [flowAct, zwc, zwn]
            try simp only [hn]
            go_wp2_with (fail)
            exact ⟨rfl, _, rfl, Below.refl _ _, rfl⟩
          · intro xs W hW hn
            simp [flowNeeds, Region.binds] at hn
            simp only [flowAct, zwc, zwn]
            try simp only [hn]
            go_wp2_with (fail)
            exact ⟨rfl, _, rfl, Below.refl _ _, rfl⟩
        · intro xs W hW hall
          simp only [flowAll, and_true, Nat.zero_add, Nat.reduceAdd] at hall
          obtain ⟨-,-,-,-,-,-,-,-,-,-,-, eL⟩ := hall
          simp only [flowAct, zwc, zwn]
          simp only [eL]
          have hbk := HBx.out.trans (hW.mono HBx.out.size)
          have hnk := HNx.out.kept hW
          clear eL
          obtain ⟨WK, hWK⟩ : ∃ X, W = X := ⟨_, rfl⟩
          rw [hWK] at hbk hnk ⊢
          clear hWK hW HBx HNx
          have HBx := Lib.hid hbk
          have HNx := Lib.hid hnk
          clear hbk hnk
          go_upto_region 9 with (fail)
          refine wp_region_flow [none,none,none,none,none,none,none,none,none,none,none,none,none,none,none,none,none,none,none,none,none,none,none,none,none,none,none,none,none,none,none, some 0, some 1, some 2, some 3, some 4, some 5, some 6, some 7, none,none,none,none,none,none,none,none,none,none,none,none,none,none,none] (fun i => [u31, u32, u33, u34, u35, u36, u37, u38].getD i undef) [(fun v _ => v = .slice (some ⟨bo, offo, none⟩) m cap), (fun v _ => v = .int .i64 (q : Int)), (fun v _ => v = .pointer (some ⟨bo, offo + q * 2, none⟩)), (fun v _ => v = .pointer (some ⟨bo, offo + q * 2, none⟩)), (fun v _ => v = .string to), (fun v _ => v = .pointer (some ⟨B, 0, none⟩)), (fun v _ => v = .string tr), (fun v _ => v = .bool (!EQ))] (by kernel_rfl) (by kernel_rfl) rfl rfl rfl ?_ ?_ ?_
          · intro g hg v X Y hX hY hv
            simp only [List.mem_cons, List.not_mem_nil, or_false] at hg
            rcases hg with rfl | rfl | rfl | rfl | rfl | rfl | rfl | rfl
            all_goals first
              | exact hv
              | exact hv.kept hY
          · simp only [flowOps, and_true]
            refine ⟨?_,?_,?_,?_,?_,?_,?_,?_⟩
            · intro xs W hW hn
              simp only [flowAct, zwc, zwn]
              go_wp2_with (fail)
              exact ⟨rfl, _, rfl, Below.refl _ _, rfl⟩
            · intro xs W hW hn
              simp only [flowAct, zwc, zwn]
              go_wp2_with (fail)
              exact ⟨rfl, _, rfl, Below.refl _ _, rfl⟩
            · intro xs W hW hn
              simp [flowNeeds, Region.binds] at hn
              simp only [flowAct, zwc, zwn]
              try simp only [hn]
              go_wp2_with (fail)
              exact ⟨rfl, _, rfl, Below.refl _ _, rfl⟩
            · intro xs W hW hn
              simp [flowNeeds, Region.binds] at hn
              simp only [flowAct, zwc, zwn]
              try simp only [hn]
              go_wp2_with (fail)
              exact ⟨rfl, _, rfl, Below.refl _ _, rfl⟩
            · intro xs W hW hn
              obtain ⟨o0, o1⟩ := HOW.out W (HBx.out.trans (hW.mono HBx.out.size))
              simp [flowNeeds, Region.binds] at hn
              simp only [flowAct, zwc, zwn]
              try simp only [hn]
              go_wp2_with (fail)
              exact ⟨rfl, _, rfl, Below.refl _ _, rfl⟩
            · intro xs W hW hn
              simp only [flowAct, zwc, zwn]
              go_wp2_with (fail)
              exact ⟨rfl, _, rfl, Below.refl _ _, rfl⟩
            · intro xs W hW hn
              obtain ⟨r0, r1, -⟩ := HRW.out W (HBx.out.trans (hW.mono HBx.out.size))
              simp [flowNeeds, Region.binds] at hn
              simp only [flowAct, zwc, zwn]
              try simp only [hn]
              go_wp2_with (fail)
              exact ⟨rfl, _, rfl, Below.refl _ _, rfl⟩
            · intro xs W hW hn
              simp [flowNeeds, Region.binds] at hn
              simp only [flowAct, zwc, zwn]
              try simp only [hn]
              go_wp2_with (fail)
              exact ⟨rfl, _, rfl, Below.refl _ _, rfl⟩
          · intro xs W hW hall
            simp only [flowAll, and_true, Nat.zero_add, Nat.reduceAdd] at hall
            obtain ⟨-,-,-,-,-,-,-, eL⟩ := hall
            simp only [flowAct, zwc, zwn]
            simp only [eL]
            have hbk := HBx.out.trans (hW.mono HBx.out.size)
            have hnk := HNx.out.kept hW
            clear eL
            obtain ⟨WK, hWK⟩ : ∃ X, W = X := ⟨_, rfl⟩
            rw [hWK] at hbk hnk ⊢
            clear hWK hW HBx HNx
            have HBx := Lib.hid hbk
            have HNx := Lib.hid hnk
            clear hbk hnk
            cases EQ with
            | true =>
              have HST := Lib.hid (show sN Op.bytesLess Prod.fst ([], []) (kr, cs) O (q + 1) = (NN.map Rw.pr, true) by rw [HCN.out]; rfl)
              go_wp2
              go_roundw
              case rel => exact ⟨q + 1, _, _, _, by omega, by go_num, rfl, rfl, HST.out, HNx.out, HBx.out⟩
              case measure => simp [intOf]; omega
            | false =>
              have HST := Lib.hid (show sN Op.bytesLess Prod.fst ([], []) (kr, cs) O (q + 1) = (NN.map Rw.pr ++ [(ko, cso)], true) by rw [HCN.out]; rfl)
              have hbs := HBx.out.size
              have hl9 : NN.length ≤ 1000000000 := by have := HNL.out; have := HNE.out; omega
              have HL9 := Lib.hid hl9
              have HBS := Lib.hid (show B + 1 ≤ WK.heap.size by have := HSZ.out; omega)
              clear hl9
              obtain ⟨o0, o1⟩ := HOW.out WK HBx.out
              go_wp2_with (at_builtin; refine wpList_append_rwt rfl _ _ rfl (u := .slice an nl cn) rfl HNx.out.row to HTO.out ao no co cso rfl HL9.out HBS.out ?_; intro v' w' ho' hg'; obtain ⟨a8, c8, e8, -⟩ := OwnL.ls (z := Rw.zero) rw_size ho'; rw [List.length_append, List.length_singleton, HNE.out] at e8; subst e8)
              have hbk := ((HBx.out.alloc HBx.out.size (.cells #[.string to, .slice ao no co] 30)).grown hg' (by have := HBx.out.size; simp; omega) (fun z e => by have := (HNx.out.lt z e).1; have := HSZ.out; omega))
              have hnk := HNx.out.push (r := ⟨ko, .slice ao no co, cso⟩) (HRO.out _ HBx.out) _ ho' hg'
              clear HOW
              refine ⟨⟨q + 1, _, _, _, by omega, by go_num, rfl, rfl, by rw [HST.out, List.map_append]; rfl, hnk, hbk⟩, ?_⟩
              simp [intOf]; omega
      | false =>
        refine wp_region_flow [none,none,none,none,none,none,none,none,none,none,none,none,none,none, some 0, some 1, some 2, some 3, some 4, some 5, some 6, some 7, some 8, some 9, some 10, some 11, none,none,none,none,none,none,none,none,none,none,none,none,none,none,none,none,none,none,none,none,none,none,none,none,none,none,none,none] (fun i => [u14, u15, u16, u17, u18, u19, u20, u21, u22, u23, u24, u25].getD i undef) [(fun v _ => v = .bool false), (fun v _ => v = .bool true), (fun v _ => v = .bool true), (fun v _ => v = .slice (some ⟨bo, offo, none⟩) m cap), (fun v _ => v = .int .i64 (q : Int)), (fun v _ => v = .pointer (some ⟨bo, offo + q * 2, none⟩)), (fun v _ => v = .pointer (some ⟨bo, offo + q * 2, none⟩)), (fun v _ => v = .string to), (fun v _ => v = .pointer (some ⟨B, 0, none⟩)), (fun v _ => v = .string tr), (fun v _ => v = .bool (!BL)), (fun v _ => v = .bool (!BL))] (by kernel_rfl) (by kernel_rfl) rfl rfl rfl ?_ ?_ ?_
        · intro g hg v X Y hX hY hv
          simp only [List.mem_cons, List.not_mem_nil, or_false] at hg
          rcases hg with rfl | rfl | rfl | rfl | rfl | rfl | rfl | rfl | rfl | rfl | rfl | rfl
          all_goals first
            | exact hv
            | exact hv.kept hY
        · simp only [flowOps, and_true]
          refine ⟨?_,?_,?_,?_,?_,?_,?_,?_,?_,?_,?_,?_⟩
          · intro xs W hW hn
            simp only [flowAct, zwc, zwn]
            go_wp2_with (fail)
            exact ⟨rfl, _, rfl, Below.refl _ _, rfl⟩
          · intro xs W hW hn
            simp [flowNeeds, Region.binds] at hn
            simp only [flowAct, zwc, zwn]
            try simp only [hn]
            go_wp2_with (fail)
            exact ⟨rfl, _, rfl, Below.refl _ _, rfl⟩
          · intro xs W hW hn
            simp [flowNeeds, Region.binds] at hn
            simp only [flowAct, zwc, zwn]
            try simp only [hn]
            go_wp2_with (fail)
            exact ⟨rfl, _, rfl, Below.refl _ _, rfl⟩
          · intro xs W hW hn
            simp [flowNeeds, Region.binds] at hn
            simp only [flowAct, zwc, zwn]
            try simp only [hn]
            go_wp2_with (fail)
            exact ⟨rfl, _, rfl, Below.refl _ _, rfl⟩
          · intro xs W hW hn
            simp [flowNeeds, Region.binds] at hn
            simp only [flowAct, zwc, zwn]
            try simp only [hn]
            go_wp2_with (fail)
            exact ⟨rfl, _, rfl, Below.refl _ _, rfl⟩
          · intro xs W hW hn
            simp [flowNeeds, Region.binds] at hn
            simp only [flowAct, zwc, zwn]
            try simp only [hn]
            go_wp2_with (fail)
            exact ⟨rfl, _, rfl, Below.refl _ _, rfl⟩
          · intro xs W hW hn
            simp [flowNeeds, Region.binds] at hn
            simp only [flowAct, zwc, zwn]
            try simp only [hn]
            go_wp2_with (fail)
            exact ⟨rfl, _, rfl, Below.refl _ _, rfl⟩
          · intro xs W hW hn
            obtain ⟨o0, o1⟩ := HOW.out W (HBx.out.trans (hW.mono HBx.out.size))
            simp [flowNeeds, Region.binds] at hn
            simp only [flowAct, zwc, zwn]
            try simp only [hn]
            go_wp2_with (fail)
            exact ⟨rfl, _, rfl, Below.refl _ _, rfl⟩
          · intro xs W hW hn
            simp [flowNeeds, Region.binds] at hn
            simp only [flowAct, zwc, zwn]
            try simp only [hn]
            go_wp2_with (fail)
            exact ⟨rfl, _, rfl, Below.refl _ _, rfl⟩
          · intro xs W hW hn
            obtain ⟨r0, r1, -⟩ := HRW.out W (HBx.out.trans (hW.mono HBx.out.size))
            simp [flowNeeds, Region.binds] at hn
            simp only [flowAct, zwc, zwn]
            try simp only [hn]
            go_wp2_with (fail)
            exact ⟨rfl, _, rfl, Below.refl _ _, rfl⟩
          · intro xs W hW hn
            simp [flowNeeds, Region.binds] at hn
            simp only [flowAct, zwc, zwn]
            try simp only [hn]
            go_wp2_with (fail)
            exact ⟨rfl, _, rfl, Below.refl _ _, rfl⟩
          · intro xs W hW hn
            simp [flowNeeds, Region.binds] at hn
            simp only [flowAct, zwc, zwn]
            try simp only [hn]
            go_wp2_with (fail)
            exact ⟨rfl, _, rfl, Below.refl _ _, rfl⟩
        · intro xs W hW hall
          simp only [flowAll, and_true, Nat.zero_add, Nat.reduceAdd] at hall
          obtain ⟨-,-,-,-,-,-,-,-,-,-,-, eL⟩ := hall
          simp only [flowAct, zwc, zwn]
          simp only [eL]
          have hbk := HBx.out.trans (hW.mono HBx.out.size)
          have hnk := HNx.out.kept hW
          clear eL
          obtain ⟨WK, hWK⟩ : ∃ X, W = X := ⟨_, rfl⟩
          rw [hWK] at hbk hnk ⊢
          clear hWK hW HBx HNx
          have HBx := Lib.hid hbk
          have HNx := Lib.hid hnk
          clear hbk hnk
          cases BL with
          | true =>
            have hcn := HCN.out
            simp only [Bool.not_false, Bool.not_true, Bool.and_false, Bool.false_eq_true, if_false] at hcn
            clear HCN
            have HCN := Lib.hid hcn
            clear hcn
            go_upto_region 9 with (fail)
            refine wp_region_flow [none,none,none,none,none,none,none,none,none,none,none,none,none,none,none,none,none,none,none,none,none,none,none,none,none,none,none,none,none,none,none, some 0, some 1, some 2, some 3, some 4, some 5, some 6, some 7, none,none,none,none,none,none,none,none,none,none,none,none,none,none,none] (fun i => [u31, u32, u33, u34, u35, u36, u37, u38].getD i undef) [(fun v _ => v = .slice (some ⟨bo, offo, none⟩) m cap), (fun v _ => v = .int .i64 (q : Int)), (fun v _ => v = .pointer (some ⟨bo, offo + q * 2, none⟩)), (fun v _ => v = .pointer (some ⟨bo, offo + q * 2, none⟩)), (fun v _ => v = .string to), (fun v _ => v = .pointer (some ⟨B, 0, none⟩)), (fun v _ => v = .string tr), (fun v _ => v = .bool (!EQ))] (by kernel_rfl) (by kernel_rfl) rfl rfl rfl ?_ ?_ ?_
            · intro g hg v X Y hX hY hv
              simp only [List.mem_cons, List.not_mem_nil, or_false] at hg
              rcases hg with rfl | rfl | rfl | rfl | rfl | rfl | rfl | rfl
              all_goals first
                | exact hv
                | exact hv.kept hY
            · simp only [flowOps, and_true]
              refine ⟨?_,?_,?_,?_,?_,?_,?_,?_⟩
              · intro xs W hW hn
                simp only [flowAct, zwc, zwn]
                go_wp2_with (fail)
                exact ⟨rfl, _, rfl, Below.refl _ _, rfl⟩
              · intro xs W hW hn
                simp only [flowAct, zwc, zwn]
                go_wp2_with (fail)
                exact ⟨rfl, _, rfl, Below.refl _ _, rfl⟩
              · intro xs W hW hn
                simp [flowNeeds, Region.binds] at hn
                simp only [flowAct, zwc, zwn]
                try simp only [hn]
                go_wp2_with (fail)
                exact ⟨rfl, _, rfl, Below.refl _ _, rfl⟩
              · intro xs W hW hn
                simp [flowNeeds, Region.binds] at hn
                simp only [flowAct, zwc, zwn]
                try simp only [hn]
                go_wp2_with (fail)
                exact ⟨rfl, _, rfl, Below.refl _ _, rfl⟩
              · intro xs W hW hn
                obtain ⟨o0, o1⟩ := HOW.out W (HBx.out.trans (hW.mono HBx.out.size))
                simp [flowNeeds, Region.binds] at hn
                simp only [flowAct, zwc, zwn]
                try simp only [hn]
                go_wp2_with (fail)
                exact ⟨rfl, _, rfl, Below.refl _ _, rfl⟩
              · intro xs W hW hn
                simp only [flowAct, zwc, zwn]
                go_wp2_with (fail)
                exact ⟨rfl, _, rfl, Below.refl _ _, rfl⟩
              · intro xs W hW hn
                obtain ⟨r0, r1, -⟩ := HRW.out W (HBx.out.trans (hW.mono HBx.out.size))
                simp [flowNeeds, Region.binds] at hn
                simp only [flowAct, zwc, zwn]
                try simp only [hn]
                go_wp2_with (fail)
                exact ⟨rfl, _, rfl, Below.refl _ _, rfl⟩
              · intro xs W hW hn
                simp [flowNeeds, Region.binds] at hn
                simp only [flowAct, zwc, zwn]
                try simp only [hn]
                go_wp2_with (fail)
                exact ⟨rfl, _, rfl, Below.refl _ _, rfl⟩
            · intro xs W hW hall
              simp only [flowAll, and_true, Nat.zero_add, Nat.reduceAdd] at hall
              obtain ⟨-,-,-,-,-,-,-, eL⟩ := hall
              simp only [flowAct, zwc, zwn]
              simp only [eL]
              have hbk := HBx.out.trans (hW.mono HBx.out.size)
              have hnk := HNx.out.kept hW
              clear eL
              obtain ⟨WK, hWK⟩ : ∃ X, W = X := ⟨_, rfl⟩
              rw [hWK] at hbk hnk ⊢
              clear hWK hW HBx HNx
              have HBx := Lib.hid hbk
              have HNx := Lib.hid hnk
              clear hbk hnk
              cases EQ with
              | true =>
                have HST := Lib.hid (show sN Op.bytesLess Prod.fst ([], []) (kr, cs) O (q + 1) = (NN.map Rw.pr, false) by rw [HCN.out]; rfl)
                go_wp2
                go_roundw
                case rel => exact ⟨q + 1, _, _, _, by omega, by go_num, rfl, rfl, HST.out, HNx.out, HBx.out⟩
                case measure => simp [intOf]; omega
              | false =>
                have HST := Lib.hid (show sN Op.bytesLess Prod.fst ([], []) (kr, cs) O (q + 1) = (NN.map Rw.pr ++ [(ko, cso)], false) by rw [HCN.out]; rfl)
                have hbs := HBx.out.size
                have hl9 : NN.length ≤ 1000000000 := by have := HNL.out; have := HNE.out; omega
                have HL9 := Lib.hid hl9
                have HBS := Lib.hid (show B + 1 ≤ WK.heap.size by have := HSZ.out; omega)
                clear hl9
                obtain ⟨o0, o1⟩ := HOW.out WK HBx.out
                go_wp2_with (at_builtin; refine wpList_append_rwt rfl _ _ rfl (u := .slice an nl cn) rfl HNx.out.row to HTO.out ao no co cso rfl HL9.out HBS.out ?_; intro v' w' ho' hg'; obtain ⟨a8, c8, e8, -⟩ := OwnL.ls (z := Rw.zero) rw_size ho'; rw [List.length_append, List.length_singleton, HNE.out] at e8; subst e8)
                have hbk := ((HBx.out.alloc HBx.out.size (.cells #[.string to, .slice ao no co] 30)).grown hg' (by have := HBx.out.size; simp; omega) (fun z e => by have := (HNx.out.lt z e).1; have := HSZ.out; omega))
                have hnk := HNx.out.push (r := ⟨ko, .slice ao no co, cso⟩) (HRO.out _ HBx.out) _ ho' hg'
                clear HOW
                refine ⟨⟨q + 1, _, _, _, by omega, by go_num, rfl, rfl, by rw [HST.out, List.map_append]; rfl, hnk, hbk⟩, ?_⟩
                simp [intOf]; omega
          | false =>
            have hcn := HCN.out
            simp only [Bool.not_false, Bool.and_self, if_true] at hcn
            clear HCN
            have HCN := Lib.hid hcn
            clear hcn
            have hbs := HBx.out.size
            have hl9 : NN.length ≤ 1000000000 := by have := HNL.out; have := HNE.out; omega
            have HL9 := Lib.hid hl9
            have HBS := Lib.hid (show B + 1 ≤ WK.heap.size by have := HSZ.out; omega)
            clear hl9
            obtain ⟨r0, r1, -⟩ := HRW.out WK HBx.out
            go_upto_region 9 with (first
              | (go_at_call 45; refine (HCP.out _ (HB1.out.trans (HBx.out.mono HB1.out.size))).mono ?_; rintro e9 w9 ⟨vc, rfl, hoc, hb9⟩
                 have hnk9 := HNx.out.kept hb9
                 have hbk9 := HBx.out.trans (hb9.mono HBx.out.size)
                 have hri := RowIn.own (B := B0) (k := kr) hoc
                 obtain ⟨ac, cc, rfl, -⟩ := hoc.cls
                 have HRI := Lib.hid hri
                 have HN9 := Lib.hid hnk9
                 have HB9 := Lib.hid hbk9
                 have HBS9 := Lib.hid (show B + 1 ≤ w9.heap.size by have := hbk9.size; have := HSZ.out; omega)
                 clear hri hnk9 hbk9 hoc hb9 r0 r1)
              | (at_builtin; refine wpList_append_rwt rfl _ _ rfl (u := .slice an nl cn) rfl HN9.out.row tr HTR.out ac cs.length cc cs rfl HL9.out HBS9.out ?_; intro v' w' ho' hg'; obtain ⟨a8, c8, e8, -⟩ := OwnL.ls (z := Rw.zero) rw_size ho'; rw [List.length_append, List.length_singleton, HNE.out] at e8; subst e8))
            have hbk := ((HB9.out.alloc HB9.out.size (.cells #[.string tr, .slice ac cs.length cc] 30)).grown hg' (by have := HB9.out.size; simp; omega) (fun z e => by have := (HN9.out.lt z e).1; have := HSZ.out; omega))
            have hnk := HN9.out.push (r := ⟨kr, .slice ac cs.length cc, cs⟩) HRI.out _ ho' hg'
            have hnl2 : nl + 1 ≤ q + 2 := by have := HNL.out; omega
            have hne2 : (NN ++ [⟨kr, .slice ac cs.length cc, cs⟩] : List Rw).length = nl + 1 := by rw [List.length_append, List.length_singleton, HNE.out]
            have hpr2 : (NN ++ [⟨kr, .slice ac cs.length cc, cs⟩] : List Rw).map Rw.pr = NN.map Rw.pr ++ [(kr, cs)] := by rw [List.map_append]; rfl
            have hcn := HCN.out
            rw [← hpr2] at hcn
            clear HNx HBx HL9 hg' HCN hpr2 HN9 HB9 HBS9 HRI ho' HBS
            have HNx := Lib.hid hnk
            have HBx := Lib.hid hbk
            clear hbk hnk
            obtain ⟨N2, hN2⟩ : ∃ z, NN ++ [⟨kr, .slice ac cs.length cc, cs⟩] = z := ⟨_, rfl⟩
            rw [hN2] at HNx hcn hne2
            have HCN := Lib.hid hcn
            clear hcn hN2 HNE HNL hbs
            obtain ⟨nl2, hnl3⟩ : ∃ z, nl + 1 = z := ⟨_, rfl⟩
            rw [hnl3] at hne2 hnl2 HNx ⊢
            clear hnl3
            have HNE := Lib.hid hne2
            have HNL := Lib.hid (show nl2 ≤ q + 2 from hnl2)
            clear hne2 hnl2
            refine wp_region_flow [none,none,none,none,none,none,none,none,none,none,none,none,none,none,none,none,none,none,none,none,none,none,none,none,none,none,none,none,none,none,none, some 0, some 1, some 2, some 3, some 4, some 5, some 6, some 7, none,none,none,none,none,none,none,none,none,none,none,none,none,none,none] (fun i => [u31, u32, u33, u34, u35, u36, u37, u38].getD i undef) [(fun v _ => v = .slice (some ⟨bo, offo, none⟩) m cap), (fun v _ => v = .int .i64 (q : Int)), (fun v _ => v = .pointer (some ⟨bo, offo + q * 2, none⟩)), (fun v _ => v = .pointer (some ⟨bo, offo + q * 2, none⟩)), (fun v _ => v = .string to), (fun v _ => v = .pointer (some ⟨B, 0, none⟩)), (fun v _ => v = .string tr), (fun v _ => v = .bool (!EQ))] (by kernel_rfl) (by kernel_rfl) rfl rfl rfl ?_ ?_ ?_
            · intro g hg v X Y hX hY hv
              simp only [List.mem_cons, List.not_mem_nil, or_false] at hg
              rcases hg with rfl | rfl | rfl | rfl | rfl | rfl | rfl | rfl
              all_goals first
                | exact hv
                | exact hv.kept hY
            · simp only [flowOps, and_true]
              refine ⟨?_,?_,?_,?_,?_,?_,?_,?_⟩
              · intro xs W hW hn
                simp only [flowAct, zwc, zwn]
                go_wp2_with (fail)
                exact ⟨rfl, _, rfl, Below.refl _ _, rfl⟩
              · intro xs W hW hn
                simp only [flowAct, zwc, zwn]
                go_wp2_with (fail)
                exact ⟨rfl, _, rfl, Below.refl _ _, rfl⟩
              · intro xs W hW hn
                simp [flowNeeds, Region.binds] at hn
                simp only [flowAct, zwc, zwn]
                try simp only [hn]
                go_wp2_with (fail)
                exact ⟨rfl, _, rfl, Below.refl _ _, rfl⟩
              · intro xs W hW hn
                simp [flowNeeds, Region.binds] at hn
                simp only [flowAct, zwc, zwn]
                try simp only [hn]
                go_wp2_with (fail)
                exact ⟨rfl, _, rfl, Below.refl _ _, rfl⟩
              · intro xs W hW hn
                obtain ⟨o0, o1⟩ := HOW.out W (HBx.out.trans (hW.mono HBx.out.size))
                simp [flowNeeds, Region.binds] at hn
                simp only [flowAct, zwc, zwn]
                try simp only [hn]
                go_wp2_with (fail)
                exact ⟨rfl, _, rfl, Below.refl _ _, rfl⟩
              · intro xs W hW hn
                simp only [flowAct, zwc, zwn]
                go_wp2_with (fail)
                exact ⟨rfl, _, rfl, Below.refl _ _, rfl⟩
              · intro xs W hW hn
                obtain ⟨r0, r1, -⟩ := HRW.out W (HBx.out.trans (hW.mono HBx.out.size))
                simp [flowNeeds, Region.binds] at hn
                simp only [flowAct, zwc, zwn]
                try simp only [hn]
                go_wp2_with (fail)
                exact ⟨rfl, _, rfl, Below.refl _ _, rfl⟩
              · intro xs W hW hn
                simp [flowNeeds, Region.binds] at hn
                simp only [flowAct, zwc, zwn]
                try simp only [hn]
                go_wp2_with (fail)
                exact ⟨rfl, _, rfl, Below.refl _ _, rfl⟩
            · intro xs W hW hall
              simp only [flowAll, and_true, Nat.zero_add, Nat.reduceAdd] at hall
              obtain ⟨-,-,-,-,-,-,-, eL⟩ := hall
              simp only [flowAct, zwc, zwn]
              simp only [eL]
              have hbk := HBx.out.trans (hW.mono HBx.out.size)
              have hnk := HNx.out.kept hW
              clear eL
              obtain ⟨WK, hWK⟩ : ∃ X, W = X := ⟨_, rfl⟩
              rw [hWK] at hbk hnk ⊢
              clear hWK hW HBx HNx
              have HBx := Lib.hid hbk
              have HNx := Lib.hid hnk
              clear hbk hnk
              cases EQ with
              | true =>
                have HST := Lib.hid (show sN Op.bytesLess Prod.fst ([], []) (kr, cs) O (q + 1) = (N2.map Rw.pr, true) by rw [HCN.out]; rfl)
                go_wp2
                go_roundw
                case rel => exact ⟨q + 1, _, _, _, by omega, by go_num, rfl, rfl, HST.out, HNx.out, HBx.out⟩
                case measure => simp [intOf]; omega
              | false =>
                have HST := Lib.hid (show sN Op.bytesLess Prod.fst ([], []) (kr, cs) O (q + 1) = (N2.map Rw.pr ++ [(ko, cso)], true) by rw [HCN.out]; rfl)
                have hbs := HBx.out.size
                have hl9 : N2.length ≤ 1000000000 := by have := HNL.out; have := HNE.out; omega
                have HL9 := Lib.hid hl9
                have HBS := Lib.hid (show B + 1 ≤ WK.heap.size by have := HSZ.out; omega)
                clear hl9
                obtain ⟨o0, o1⟩ := HOW.out WK HBx.out
                go_wp2_with (at_builtin; refine wpList_append_rwt rfl _ _ rfl (u := .slice a8 nl2 c8) rfl HNx.out.row to HTO.out ao no co cso rfl HL9.out HBS.out ?_; intro v' w' ho' hg'; obtain ⟨a8, c8, e8, -⟩ := OwnL.ls (z := Rw.zero) rw_size ho'; rw [List.length_append, List.length_singleton, HNE.out] at e8; subst e8)
                have hbk := ((HBx.out.alloc HBx.out.size (.cells #[.string to, .slice ao no co] 30)).grown hg' (by have := HBx.out.size; simp; omega) (fun z e => by have := (HNx.out.lt z e).1; have := HSZ.out; omega))
                have hnk := HNx.out.push (r := ⟨ko, .slice ao no co, cso⟩) (HRO.out _ HBx.out) _ ho' hg'
                clear HOW
                refine ⟨⟨q + 1, _, _, _, by omega, by go_num, rfl, rfl, by rw [HST.out, List.map_append]; rfl, hnk, hbk⟩, ?_⟩
                simp [intOf]; omega
    · obtain rfl : m = q := by omega
      cases DN with
      | true =>
        have HRR := Lib.hid (show setR Op.bytesLess Prod.fst ([], []) (kr, cs) O = NN.map Rw.pr by unfold setR; rw [HOL.out, HCQ.out]; rfl)
        go_wp2
        go_ret
        exact ⟨_, NN, rfl, HRR.out.symm, HNx.out.mono (by have := HBe.out; omega) (by have := HBe.out; omega), HB1.out.trans (HBx.out.mono HB1.out.size)⟩
      | false =>
        have HRR := Lib.hid (show setR Op.bytesLess Prod.fst ([], []) (kr, cs) O = NN.map Rw.pr ++ [(kr, cs)] by unfold setR; rw [HOL.out, HCQ.out]; rfl)
        have hbs := HBx.out.size
        have hl9 : NN.length ≤ 1000000000 := by have := HNL.out; have := HNE.out; omega
        have HL9 := Lib.hid hl9
        have HBS := Lib.hid (show B + 1 ≤ wr.heap.size by have := HSZ.out; omega)
        clear hl9
        obtain ⟨r0, r1, -⟩ := HRW.out wr HBx.out
        go_wp2_with (first
          | (go_at_call 45; refine (HCP.out _ (HB1.out.trans (HBx.out.mono HB1.out.size))).mono ?_; rintro e9 w9 ⟨vc, rfl, hoc, hb9⟩
             have hnk9 := HNx.out.kept hb9
             have hbk9 := HBx.out.trans (hb9.mono HBx.out.size)
             have hri := RowIn.own (B := B0) (k := kr) hoc
             obtain ⟨ac, cc, rfl, -⟩ := hoc.cls
             have HRI := Lib.hid hri
             have HN9 := Lib.hid hnk9
             have HB9 := Lib.hid hbk9
             have HBS9 := Lib.hid (show B + 1 ≤ w9.heap.size by have := hbk9.size; have := HSZ.out; omega)
             clear hri hnk9 hbk9 hoc hb9 r0 r1)
          | (at_builtin; refine wpList_append_rwt rfl _ _ rfl (u := .slice an nl cn) rfl HN9.out.row tr HTR.out ac cs.length cc cs rfl HL9.out HBS9.out ?_; intro v' w' ho' hg'; obtain ⟨a8, c8, e8, -⟩ := OwnL.ls (z := Rw.zero) rw_size ho'; rw [List.length_append, List.length_singleton, HNE.out] at e8; subst e8))
        have hbk := ((HB9.out.alloc HB9.out.size (.cells #[.string tr, .slice ac cs.length cc] 30)).grown hg' (by have := HB9.out.size; simp; omega) (fun z e => by have := (HN9.out.lt z e).1; have := HSZ.out; omega))
        have hnk := HN9.out.push (r := ⟨kr, .slice ac cs.length cc, cs⟩) HRI.out _ ho' hg'
        go_ret
        exact ⟨_, _, rfl, by rw [HRR.out, List.map_append]; rfl, hnk.mono (by have := HBe.out; omega) (by have := HBe.out; omega), HB1.out.trans (hbk.mono HB1.out.size)⟩
end Go.Proofs.Ytidbjmkfmfojdaa
end

section
namespace Go.Proofs.Ytidbjmkfmfojdaa
open Go.RowKit Go Go.Sort
set_option linter.unusedVariables false
set_option maxRecDepth 20000

theorem join_bad1 {gs : List Grp} {ka kb : List UInt8} {ca cb : List Cl} (h : ¬ rgoodS gs ka ca = 0) : rjoinS gs ka ca kb cb = ([], [], rgoodS gs ka ca) := by unfold rjoinS; rw [if_pos h]
theorem join_bad2 {gs : List Grp} {ka kb : List UInt8} {ca cb : List Cl} (h0 : rgoodS gs ka ca = 0) (h : ¬ rgoodS gs kb cb = 0) : rjoinS gs ka ca kb cb = ([], [], rgoodS gs kb cb) := by unfold rjoinS; rw [if_neg (not_not_intro h0), if_pos h]
theorem join_bad3 {gs : List Grp} {ka kb : List UInt8} {ca cb : List Cl} (h0 : rgoodS gs ka ca = 0) (h1 : rgoodS gs kb cb = 0) (h : ¬ ka = kb) : rjoinS gs ka ca kb cb = ([], [], 100) := by unfold rjoinS; rw [if_neg (not_not_intro h0), if_neg (not_not_intro h1), if_pos h]
set_option maxRecDepth 100000 in
set_option maxHeartbeats 12800000 in
theorem rrowjoin_c {w : World} {x xa xb : Option Addr} {n1 cap ma capa mb capb : Nat} {gs : List Grp} {ca cb : List Cl} (hg : Grs w x n1 cap gs) (hs : ∀ g ∈ gs, g.1.length ≤ 9223372036854775807)
    (hla : Cls w xa ma capa ca) (hxa : ∀ c ∈ ca, c.t.length ≤ 9223372036854775807) (ka : List UInt8) (hka : ka.length ≤ 9223372036854775807)
    (hlb : Cls w xb mb capb cb) (hxb : ∀ c ∈ cb, c.t.length ≤ 9223372036854775807) (kb : List UInt8) (hkb : kb.length ≤ 9223372036854775807) :
    Calls Try.prog 105 #[.slice x n1 cap, .agg #[.string (text ka), .slice xa ma capa], .agg #[.string (text kb), .slice xb mb capb]] w (RowPost (rjoinS gs ka ca kb cb) w) := by
  have hgl := hg.len
  have hal := hla.len
  have hbl := hlb.len
  have hlea := hla.le
  have hmaxa := hla.max
  have hleb := hlb.le
  have hmaxb := hlb.max
  have hGA := fun W (h : Below w.heap.size w W) => rrowgood_c (hg.below h) hs (hla.below h) hxa ka hka
  have hGB := fun W (h : Below w.heap.size w W) => rrowgood_c (hg.below h) hs (hlb.below h) hxb kb hkb
  have hCP := fun (hm : ma ≤ 1000000) W (h : Below w.heap.size w W) => rcopy_c (hla.below h) hm (text ka)
  have HIA := Lib.hid (@rgood_inv gs ka ca)
  have HIB := Lib.hid (@rgood_inv gs kb cb)
  have HUP := Lib.hid (fun (h : rgoodS gs ka ca = 0) (k : Nat) (hk : k < ca.length) => join_two (b := cb.getD k Cl.zero) (good_up (good_at h hk)))
  have hts := text_same ka kb
  have H1 := Lib.hid (@join_bad1 gs ka kb ca cb)
  have H2 := Lib.hid (@join_bad2 gs ka kb ca cb)
  have H3 := Lib.hid (@join_bad3 gs ka kb ca cb)
  have H4 := Lib.hid (@join_yes gs ka kb ca cb)
  have HLB := Lib.hid hlb
  obtain ⟨RA, hRA⟩ : ∃ z, rgoodS gs ka ca = z := ⟨_, rfl⟩
  obtain ⟨RB, hRB⟩ : ∃ z, rgoodS gs kb cb = z := ⟨_, rfl⟩
  obtain ⟨RV, hRV⟩ : ∃ z, rjoinS gs ka ca kb cb = z := ⟨_, rfl⟩
  rw [hRA, hRV] at H1
  rw [hRA, hRB, hRV] at H2 H3 H4
  rw [hRV]
  simp only [hRA] at hGA
  simp only [hRB] at hGB
  rw [hRA] at HIA HUP
  rw [hRB] at HIB
  obtain ⟨tka, htka⟩ : ∃ z, text ka = z := ⟨_, rfl⟩
  obtain ⟨tkb, htkb⟩ : ∃ z, text kb = z := ⟨_, rfl⟩
  rw [htka] at hGA hCP ⊢
  rw [htkb] at hGB ⊢
  rw [htka, htkb] at hts
  obtain ⟨KE, hKE⟩ : ∃ z, decide (ka = kb) = z := ⟨_, rfl⟩
  rw [hKE] at hts
  have HTK := Lib.hid htka
  have HKE := Lib.hid hKE
  have HGA := Lib.hid hGA
  have HGB := Lib.hid hGB
  have HCP := Lib.hid hCP
  have hb := ((alloc_below w (.cells #[.string tka, .slice xa ma capa] 30)).alloc (by simp) (.cells #[.string tkb, .slice xb mb capb] 30)).alloc (by simp; omega) (.cells #[.string ⟨#[]⟩, .slice none 0 0] 30)
  have hra : (((w.alloc (.cells #[.string tka, .slice xa ma capa] 30)).alloc (.cells #[.string tkb, .slice xb mb capb] 30)).alloc (.cells #[.string ⟨#[]⟩, .slice none 0 0] 30)).heap[w.heap.size]? = some (.cells #[.string tka, .slice xa ma capa] 30 (0, 0)) := (Below.heap_alloc _ _ _ (by simp; omega)).trans ((Below.heap_alloc _ _ _ (by simp)).trans (heap_alloc_new w _))
  have hrb := heap_below (heap_alloc_new (w.alloc (.cells #[.string tka, .slice xa ma capa] 30)) (.cells #[.string tkb, .slice xb mb capb] 30)) (alloc_below _ (.cells #[.string ⟨#[]⟩, .slice none 0 0] 30))
  have hz := heap_alloc_new ((w.alloc (.cells #[.string tka, .slice xa ma capa] 30)).alloc (.cells #[.string tkb, .slice xb mb capb] 30)) (.cells #[.string ⟨#[]⟩, .slice none 0 0] 30)
  simp only [World.size_alloc] at hrb hz
  clear hGA hGB hCP hRA hRB hRV htka htkb hKE hg hs hla hlb hxa hxb hka hkb
  go_enter Try.func105, Try.ntmps105
  go_upto_region 1 with (fail)
  obtain ⟨B, hB⟩ : ∃ q, w.heap.size = q := ⟨_, rfl⟩
  have HBe := Lib.hid hB
  rw [hB] at hra hrb hz ⊢
  clear hB
  generalize ((w.alloc (.cells #[.string tka, .slice xa ma capa] 30)).alloc (.cells #[.string tkb, .slice xb mb capb] 30)).alloc (.cells #[.string ⟨#[]⟩, .slice none 0 0] 30) = W1 at *
  obtain ⟨r0, r1, -⟩ := row_cells hra
  have HA1 := Lib.hid hra
  have HR1 := Lib.hid hrb
  have HZ1 := Lib.hid hz
  have HB1 := Lib.hid hb
  clear hra hrb hz hb
  have hbad : ∀ (f : Int), RV = ([], [], f) → ∀ (W : World), Below W1.heap.size W1 W → RowPost RV w (.returned (.tuple #[.agg #[.string ⟨#[]⟩, .slice none 0 0], .int .i64 f])) ((W.setCell ⟨B + 1 + 1, 0, none⟩ (.string ⟨#[]⟩)).setCell ⟨B + 1 + 1, 1, none⟩ (.slice none 0 0)) := fun f h W hW => by
    rw [h]
    exact ⟨_, rfl, OwnC.nil _ _, ((HB1.out.trans (hW.mono HB1.out.size)).setCell (p := ⟨B + 1 + 1, 0, none⟩) (by have := HBe.out; simp; omega) _).setCell (p := ⟨B + 1 + 1, 1, none⟩) (by have := HBe.out; simp; omega) _⟩
  have HBAD := Lib.hid hbad
  clear hbad
  go_upto_region 2 with (go_at_call 63; (with_reducible refine (HGA.out _ HB1.out).mono ?_); rintro e9 w2 ⟨rfl, hb2⟩; have HX2 := Lib.hid hb2; clear hb2)
  have HB2 := Lib.hid (HB1.out.trans (HX2.out.mono HB1.out.size))
  have HZ2 := Lib.hid (heap_below HZ1.out HX2.out)
  have HA2 := Lib.hid (heap_below HA1.out HX2.out)
  have HR2 := Lib.hid (heap_below HR1.out HX2.out)
  clear r0 r1 HGA
  by_cases h0 : RA = 0
  · subst h0
    obtain ⟨s0, s1, -⟩ := row_cells HR2.out
    go_upto_region 5 with (go_at_call 63; (with_reducible refine (HGB.out _ HB2.out).mono ?_); rintro e9 w3 ⟨rfl, hb3⟩; have HX3 := Lib.hid (HX2.out.trans (hb3.mono HX2.out.size)); clear hb3)
    have HB3 := Lib.hid (HB1.out.trans (HX3.out.mono HB1.out.size))
    have HZ3 := Lib.hid (heap_below HZ1.out HX3.out)
    have HA3 := Lib.hid (heap_below HA1.out HX3.out)
    have HR3 := Lib.hid (heap_below HR1.out HX3.out)
    clear s0 s1 HGB HB2 HZ2 HA2 HR2 HX2
    by_cases h1 : RB = 0
    · subst h1
      obtain ⟨r0, r1, -⟩ := row_cells HA3.out
      obtain ⟨s0, s1, -⟩ := row_cells HR3.out
      cases KE with
      | false =>
        have HRR := Lib.hid (H3.out (by first | rfl | trivial) (by first | rfl | trivial) (of_decide_eq_false HKE.out))
        obtain ⟨z0, z1, zf⟩ := row_cells HZ3.out
        have HSB := Lib.hid (row_set HZ3.out ⟨#[]⟩ (.slice none 0 0))
        clear H1 H2 H3 H4 HIA HIB HUP
        go_wp2
        exact bodyPost_ret (res_cell_tmp rfl _ _ (B + 1 + 1) 30 _ (0, 0) _ (.int .i64 100) rfl rfl HSB.out Try.underlying30 rfl (by kernel_rfl)) rfl (HBAD.out _ HRR.out _ (HX3.out))
      | true =>
        have HRR := Lib.hid (H4.out (by first | rfl | trivial) (by first | rfl | trivial) (of_decide_eq_true HKE.out))
        obtain ⟨hpa, -, hla, -⟩ := HIA.out (by first | rfl | trivial)
        have hlb := (HIB.out (by first | rfl | trivial)).2.2.1
        have hup := HUP.out (by first | rfl | trivial)
        have h4 := pgood_len hpa
        have hpos := pgood_pos hpa
        have hm4 : ma ≤ 1000000 := by omega
        obtain rfl : ma = mb := by omega
        have hcpos : 0 < ca.length := by omega
        have HUPK := Lib.hid hup
        clear H1 H2 H3 H4 HIA HIB HUP HBAD hpa hup HX3 HA1 HR1 HZ1 HB1
        go_upto_region 11 with (go_at_call 45; (with_reducible refine (HCP.out hm4 _ HB3.out).mono ?_); rintro e9 w5 ⟨v3, rfl, ho5, hb5⟩; obtain ⟨g3, c3, ev, hg3, hc3, hgs⟩ := own_some ho5 hcpos; rw [hal] at ev; subst ev)
        have hal5 := alloc_below w5 (.cells #[.string tka, .slice (some ⟨g3, 0, none⟩) ma c3] 30)
        have HS4 := Lib.hid (heap_alloc_new w5 (.cells #[.string tka, .slice (some ⟨g3, 0, none⟩) ma c3] 30))
        have HO4 := Lib.hid ((ho5.mono HB3.out.size).kept hal5)
        have HR4 := Lib.hid (heap_below (heap_below HR3.out hb5) hal5)
        have HZ4 := Lib.hid (heap_below (heap_below HZ3.out hb5) hal5)
        have HB4 := Lib.hid ((HB3.out.trans (hb5.mono HB3.out.size)).trans (hal5.mono (Nat.le_trans HB3.out.size hb5.size)))
        have HG3 := Lib.hid (Nat.le_trans HB3.out.size hg3)
        have HSG := Lib.hid (show w5.heap.size ≠ g3 by omega)
        have HZG := Lib.hid (show B + 1 + 1 ≠ g3 by have := (Array.getElem?_eq_some_iff.1 HZ3.out).1; omega)
        have HRG := Lib.hid (show B + 1 ≠ g3 by have := (Array.getElem?_eq_some_iff.1 HZ3.out).1; omega)
        obtain ⟨S, hS⟩ : ∃ q, w5.heap.size = q := ⟨_, rfl⟩
        rw [hS] at HS4 HSG ⊢
        generalize w5.alloc (.cells #[.string tka, .slice (some ⟨g3, 0, none⟩) ma c3] 30) = W5 at *
        clear hal5 hb5 ho5 hg3 hgs hS r0 r1 s0 s1 HA3 HR3 HZ3 HCP HB3
        go_loopw [10] (fun i wr => ∃ k : Nat, k ≤ ma ∧ i = .int .i64 (k : Int) ∧ OwnC wr w.heap.size (.slice (some ⟨g3, 0, none⟩) ma c3) (zipN ca cb k) ∧ Below w.heap.size w wr ∧ wr.heap[S]? = some (.cells #[.string tka, .slice (some ⟨g3, 0, none⟩) ma c3] 30 (0, 0)) ∧ wr.heap[B + 1]? = some (.cells #[.string tkb, .slice xb ma capb] 30 (0, 0)) ∧ wr.heap[B + 1 + 1]? = some (.cells #[.string ⟨#[]⟩, .slice none 0 0] 30 (0, 0))) (fun i _ => ma - (intOf i).toNat)
        case atStart => exact ⟨0, by omega, rfl, HO4.out, HB4.out, HS4.out, HR4.out, HZ4.out⟩
        case round =>
          clear HO4 HB4 HS4 HR4 HZ4
          obtain ⟨k, hk, rfl, ho, hB, hS, hR, hZ⟩ := hrel
          obtain ⟨s0, s1, -⟩ := row_cells hS
          have HO := Lib.hid ho
          have HB := Lib.hid hB
          have HS := Lib.hid hS
          have HR := Lib.hid hR
          have HZ := Lib.hid hZ
          clear ho hB hS hR hZ
          by_cases hlt : k < ma
          · have hki : (k : Int) < (ma : Int) := by omega
            have hkic : (k : Int) < (c3 : Int) := by omega
            have hkib : (k : Int) < (capb : Int) := by omega
            have hzl := zipN_len ca cb k
            have hlk : k < (zipN ca cb k).length := by omega
            have hzk : (zipN ca cb k).getD k Cl.zero = ca.getD k Cl.zero := by rw [zipN_get ca cb k (by omega) k, if_neg (by omega)]
            have hst : zipN ca cb (k + 1) = (zipN ca cb k).set k (twoS (ca.getD k Cl.zero) (cb.getD k Cl.zero)) := by rw [← HUPK.out k (by omega)]; rfl
            have hoat := own_at HO.out hlk
            rw [hzk] at hoat
            obtain ⟨bk, off, rfl, hat⟩ := HLB.out.at hlt
            obtain ⟨y, hck⟩ : ∃ y, ca.getD k Cl.zero = y := ⟨_, rfl⟩
            obtain ⟨z, hdk⟩ : ∃ y, cb.getD k Cl.zero = y := ⟨_, rfl⟩
            rw [hck] at hoat
            rw [hck, hdk] at hst
            rw [hdk] at hat
            obtain ⟨n, s, a, b, g, t, d, e⟩ := y
            obtain ⟨n', s', a', b', g', t', d', e'⟩ := z
            have hjj := fun W => rtwo_c n s a b g t d e n' s' a' b' g' t' d' e' W
            obtain ⟨y, hj⟩ : ∃ y, twoS ⟨n, s, a, b, g, t, d, e⟩ ⟨n', s', a', b', g', t', d', e'⟩ = y := ⟨_, rfl⟩
            rw [hj] at hst
            simp only [hj] at hjj
            obtain ⟨n9, s9, a9, b9, g9, t9, d9, e9⟩ := y
            have HJJ := Lib.hid (fun W => show Calls Try.prog 126 #[.agg #[.int .i64 n, .int .i64 s, .int .i64 a, .int .i64 b, .bool g, .string (text t), .int .i64 d, .int .i64 e], .agg #[.int .i64 n', .int .i64 s', .int .i64 a', .int .i64 b', .bool g', .string (text t'), .int .i64 d', .int .i64 e']] W (Tells (.agg #[.int .i64 n9, .int .i64 s9, .int .i64 a9, .int .i64 b9, .bool g9, .string (text t9), .int .i64 d9, .int .i64 e9]) W) from hjj W)
            have HST := Lib.hid hst
            have HLK := Lib.hid hlk
            have HOW := Lib.hid hoat
            have HSW := Lib.hid (fun W (h : Below wr.heap.size wr W) => row_cells (heap_below HS.out h))
            have HRW := Lib.hid (fun W (h : Below wr.heap.size wr W) => row_cells (heap_below HR.out h))
            have HAT := Lib.hid (fun W (h : Below wr.heap.size wr W) => hat W (HB.out.trans (h.mono HB.out.size)))
            clear hoat hat hck hdk hjj hj hst hzk hzl hlk
            go_upto_region 13 with (fail)
            clear s0 s1
            refine wp_region_flow_tail 14 [none,none,none,none,none,none,none,none,none,none,none,none,none,none,none,none,none,none,none,none,none,none,none,none,none,none,none,none,none,none,none,none,none,none,none,none,none,none,none,none, some 0, some 1, some 2, some 3, some 4, some 5, some 6, some 7, some 8, some 9, some 10, some 11, some 12, some 13, none,none] (fun i => [u40, u41, u42, u43, u44, u45, u46, u47, u48, u49, u50, u51, u52, u53].getD i undef) [(fun v _ => v = .pointer (some ⟨S, 1, none⟩)), (fun v _ => v = .slice (some ⟨g3, 0, none⟩) ma c3), (fun v _ => v = .int .i64 (k : Int)), (fun v _ => v = .pointer (some ⟨S, 1, none⟩)), (fun v _ => v = .slice (some ⟨g3, 0, none⟩) ma c3), (fun v _ => v = .int .i64 (k : Int)), (fun v _ => v = .pointer (some ⟨g3, k * 8, none⟩)), (fun v _ => v = .agg #[.int .i64 n, .int .i64 s, .int .i64 a, .int .i64 b, .bool g, .string (text t), .int .i64 d, .int .i64 e]), (fun v _ => v = .pointer (some ⟨B + 1, 1, none⟩)), (fun v _ => v = .slice (some ⟨bk, off, none⟩) ma capb), (fun v _ => v = .int .i64 (k : Int)), (fun v _ => v = .pointer (some ⟨bk, off + k * 8, none⟩)), (fun v _ => v = .agg #[.int .i64 n', .int .i64 s', .int .i64 a', .int .i64 b', .bool g', .string (text t'), .int .i64 d', .int .i64 e']), (fun v _ => v = .agg #[.int .i64 n9, .int .i64 s9, .int .i64 a9, .int .i64 b9, .bool g9, .string (text t9), .int .i64 d9, .int .i64 e9])] (fun _ => False) (by kernel_rfl) (by kernel_rfl) (by kernel_rfl) rfl rfl rfl ?_ ?_ ?_
            · intro g hg v X Y hX hY hv
              simp only [List.mem_cons, List.not_mem_nil, or_false] at hg
              rcases hg with rfl | rfl | rfl | rfl | rfl | rfl | rfl | rfl | rfl | rfl | rfl | rfl | rfl | rfl
              all_goals first
                | exact hv
                | exact hv.kept hY
            · simp only [flowOpsF, List.take_succ_cons, List.take_zero, and_true]
              refine ⟨?_,?_,?_,?_,?_,?_,?_,?_,?_,?_,?_,?_,?_,?_⟩
              · intro xs W hW hn
                simp only [flowAct, zwc, zwn]
                go_wp2_with (fail)
                exact ⟨rfl, _, rfl, Below.refl _ _, rfl, fun h => h.elim⟩
              · intro xs W hW hn
                obtain ⟨-, f1, -⟩ := HSW.out W hW
                simp [flowNeeds, Region.binds] at hn
                simp only [flowAct, zwc, zwn]
                try simp only [hn]
                go_wp2_with (fail)
                exact ⟨rfl, _, rfl, Below.refl _ _, rfl, fun h => h.elim⟩
              · intro xs W hW hn
                simp only [flowAct, zwc, zwn]
                go_wp2_with (fail)
                exact ⟨rfl, _, rfl, Below.refl _ _, rfl, fun h => h.elim⟩
              · intro xs W hW hn
                simp only [flowAct, zwc, zwn]
                go_wp2_with (fail)
                exact ⟨rfl, _, rfl, Below.refl _ _, rfl, fun h => h.elim⟩
              · intro xs W hW hn
                obtain ⟨-, f1, -⟩ := HSW.out W hW
                simp [flowNeeds, Region.binds] at hn
                simp only [flowAct, zwc, zwn]
                try simp only [hn]
                go_wp2_with (fail)
                exact ⟨rfl, _, rfl, Below.refl _ _, rfl, fun h => h.elim⟩
              · intro xs W hW hn
                simp only [flowAct, zwc, zwn]
                go_wp2_with (fail)
                exact ⟨rfl, _, rfl, Below.refl _ _, rfl, fun h => h.elim⟩
              · intro xs W hW hn
                simp [flowNeeds, Region.binds] at hn
                simp only [flowAct, zwc, zwn]
                try simp only [hn]
                go_wp2_with (fail)
                exact ⟨rfl, _, rfl, Below.refl _ _, rfl, fun h => h.elim⟩
              · intro xs W hW hn
                obtain ⟨p0, p1, p2, p3, p4, p5, p6, p7⟩ := HOW.out W hW
                simp only at p0 p1 p2 p3 p4 p5 p6 p7
                simp [flowNeeds, Region.binds] at hn
                simp only [flowAct, zwc, zwn]
                try simp only [hn]
                go_wp2_with (fail)
                exact ⟨rfl, _, rfl, Below.refl _ _, rfl, fun h => h.elim⟩
              · intro xs W hW hn
                simp only [flowAct, zwc, zwn]
                go_wp2_with (fail)
                exact ⟨rfl, _, rfl, Below.refl _ _, rfl, fun h => h.elim⟩
              · intro xs W hW hn
                obtain ⟨-, f2, -⟩ := HRW.out W hW
                simp [flowNeeds, Region.binds] at hn
                simp only [flowAct, zwc, zwn]
                try simp only [hn]
                go_wp2_with (fail)
                exact ⟨rfl, _, rfl, Below.refl _ _, rfl, fun h => h.elim⟩
              · intro xs W hW hn
                simp only [flowAct, zwc, zwn]
                go_wp2_with (fail)
                exact ⟨rfl, _, rfl, Below.refl _ _, rfl, fun h => h.elim⟩
              · intro xs W hW hn
                simp [flowNeeds, Region.binds] at hn
                simp only [flowAct, zwc, zwn]
                try simp only [hn]
                go_wp2_with (fail)
                exact ⟨rfl, _, rfl, Below.refl _ _, rfl, fun h => h.elim⟩
              · intro xs W hW hn
                obtain ⟨p0, p1, p2, p3, p4, p5, p6, p7⟩ := HAT.out W hW
                simp only at p0 p1 p2 p3 p4 p5 p6 p7
                simp [flowNeeds, Region.binds] at hn
                simp only [flowAct, zwc, zwn]
                try simp only [hn]
                go_wp2_with (fail)
                exact ⟨rfl, _, rfl, Below.refl _ _, rfl, fun h => h.elim⟩
              · intro xs W hW hn
                simp [flowNeeds, Region.binds] at hn
                simp only [flowAct, zwc, zwn]
                simp only [hn]
                go_wp2_with (go_at_call 126; (with_reducible refine (HJJ.out _).mono ?_); rintro e9 w9 ⟨rfl, hb9⟩)
                exact ⟨rfl, _, rfl, hb9, rfl, fun h => h.elim⟩
            · intro xs W hW hall hfr
              clear hfr
              simp only [flowAll, and_true, Nat.zero_add, Nat.reduceAdd] at hall
              obtain ⟨-, y1, y2, -,-,-,-,-,-,-,-,-,-, y13⟩ := hall
              simp only [flowAct, zwc, zwn, List.drop_succ_cons, List.drop_zero]
              simp only [y1, y2, y13]
              have HBx := Lib.hid (HB.out.trans (hW.mono HB.out.size))
              have HOx := Lib.hid (HO.out.kept hW)
              have HSx := Lib.hid (heap_below HS.out hW)
              have HRx := Lib.hid (heap_below HR.out hW)
              have HZx := Lib.hid (heap_below HZ.out hW)
              have pfz := own_fz HOx.out
              obtain ⟨p0, p1, p2, p3, p4, p5, p6, p7⟩ := HOW.out W hW
              simp only at p0 p1 p2 p3 p4 p5 p6 p7
              clear y1 y2 y13 hW
              have hop := own_put HOx.out HLK.out n9 s9 a9 b9 g9 t9 d9 e9
              have hbp := cells_put_below (k := k) HBx.out HG3.out n9 s9 a9 b9 g9 t9 d9 e9
              have hsp := (cells_put_other (W := W) (k := k) HSG.out n9 s9 a9 b9 g9 t9 d9 e9).trans HSx.out
              have hrp := (cells_put_other (W := W) (k := k) HRG.out n9 s9 a9 b9 g9 t9 d9 e9).trans HRx.out
              have hzp := (cells_put_other (W := W) (k := k) HZG.out n9 s9 a9 b9 g9 t9 d9 e9).trans HZx.out
              rw [← HST.out] at hop
              have HFIN := Lib.hid (And.intro hop (And.intro hbp (And.intro hsp (And.intro hrp hzp))))
              clear hop hbp hsp hrp hzp
              go_wp2
              go_roundw
              case rel => exact ⟨k + 1, by omega, by go_num, HFIN.out.1, HFIN.out.2.1, HFIN.out.2.2.1, HFIN.out.2.2.2.1, HFIN.out.2.2.2.2⟩
              case measure => simp [intOf]; omega
          · obtain rfl : k = ma := by omega
            obtain ⟨z0, z1, zf⟩ := row_cells HZ.out
            have HSR := Lib.hid (row_set HZ.out tka (.slice (some ⟨g3, 0, none⟩) k c3))
            go_wp2
            refine bodyPost_ret (res_cell_tmp rfl _ _ (B + 1 + 1) 30 _ (0, 0) _ (.int .i64 0) rfl rfl HSR.out Try.underlying30 rfl (by kernel_rfl)) rfl ?_
            rw [HRR.out, hal]
            refine ⟨_, by rw [HTK.out], ?_, (HB.out.setCell (p := ⟨B + 1 + 1, 0, none⟩) (by have := HBe.out; simp; omega) _).setCell (p := ⟨B + 1 + 1, 1, none⟩) (by have := HBe.out; simp; omega) _⟩
            exact own_set (i := 1) (show (wr.setCell ⟨B + 1 + 1, 0, none⟩ (.string tka)).heap[B + 1 + 1]? = _ from (heap_setCell_same _ _ 0 _ _ _ HZ.out).trans rfl) (by decide) (own_set (i := 0) HZ.out (by decide) HO.out)
    · have h1n : (RB != 0) = true := by simpa using h1
      have HRR := Lib.hid (H2.out (by first | rfl | trivial) h1)
      obtain ⟨z0, z1, zf⟩ := row_cells HZ3.out
      have HSB := Lib.hid (row_set HZ3.out ⟨#[]⟩ (.slice none 0 0))
      clear H1 H2 H3 H4 HIA HIB HUP h1
      go_wp2
      exact bodyPost_ret (res_cell_tmp rfl _ _ (B + 1 + 1) 30 _ (0, 0) _ (.int .i64 RB) rfl rfl HSB.out Try.underlying30 rfl (by kernel_rfl)) rfl (HBAD.out _ HRR.out _ (HX3.out))
  · have h0n : (RA != 0) = true := by simpa using h0
    have HRR := Lib.hid (H1.out h0)
    obtain ⟨z0, z1, zf⟩ := row_cells HZ2.out
    have HSB := Lib.hid (row_set HZ2.out ⟨#[]⟩ (.slice none 0 0))
    clear H1 H2 H3 H4 HIA HIB HUP h0
    go_wp2
    exact bodyPost_ret (res_cell_tmp rfl _ _ (B + 1 + 1) 30 _ (0, 0) _ (.int .i64 RA) rfl rfl HSB.out Try.underlying30 rfl (by kernel_rfl)) rfl (HBAD.out _ HRR.out _ (HX2.out))
end Go.Proofs.Ytidbjmkfmfojdaa
end

section
namespace Go.Proofs.Ytidbjmkfmfojdaa
open Go.RowKit Go Go.Sort
set_option linter.unusedVariables false
set_option maxRecDepth 20000

theorem look_first (k : List UInt8) : ∀ (L : List Rw) (q : Nat), q < L.length → (∀ p, p < q → (L.getD p Rw.zero).k ≠ k) → (L.getD q Rw.zero).k = k → look (L.map Rw.pr) k = some (L.getD q Rw.zero).cs
  | [], q, h, _, _ => by simp at h
  | r :: L, 0, _, _, e => by
    show look (r.pr :: L.map Rw.pr) k = _
    rw [look_cons, if_pos (show r.pr.1 = k from e)]; rfl
  | r :: L, q + 1, h, hn, e => by
    show look (r.pr :: L.map Rw.pr) k = _
    rw [look_cons, if_neg (show ¬ r.pr.1 = k from hn 0 (by omega)), look_first k L q (by simpa using h) (fun p hp => hn (p + 1) (by omega)) e]; rfl
theorem look_never (k : List UInt8) (L : List Rw) (h : ∀ p, p < L.length → (L.getD p Rw.zero).k ≠ k) : look (L.map Rw.pr) k = none := by
  rw [look_none_iff]
  intro r hr
  obtain ⟨x, hx, rfl⟩ := List.mem_map.1 hr
  obtain ⟨i, hi, rfl⟩ := List.getElem_of_mem hx
  have := h i hi
  rw [List.getD_eq_getElem?_getD, List.getElem?_eq_getElem hi] at this
  exact this
/-- What Get tells of a row. -/
def GotPost (r : Option (List Cl)) (t : ByteArray) (w : World) (e : Ending) (w' : World) : Prop :=
  (∃ cs a c, r = some cs ∧ e = .returned (.tuple #[.agg #[.string t, .slice a cs.length c], .bool true]) ∧ OwnC w' w.heap.size (.slice a cs.length c) cs ∧ Below w.heap.size w w') ∨
  (r = none ∧ e = .returned (.tuple #[.agg #[.string ⟨#[]⟩, .slice none 0 0], .bool false]) ∧ Below w.heap.size w w')

set_option maxRecDepth 100000 in
set_option maxHeartbeats 6400000 in
theorem rget11_c {w : World} {x : Option Addr} {m cap B0 : Nat} {L : List Rw} (hl : RwsIn w B0 x m cap L) (hz : ∀ r ∈ L, r.cs.length ≤ 1000000) (k : List UInt8) :
    Calls Try.prog 21 #[.slice x m cap, .string (text k)] w (GotPost (look (L.map Rw.pr) k) (text k) w) := by
  have hll := hl.1.len
  have hle := hl.1.le
  have hmax := hl.1.max
  obtain ⟨RV, hRV⟩ : ∃ z, look (L.map Rw.pr) k = z := ⟨_, rfl⟩
  rw [hRV]
  have HF := Lib.hid (fun q (hq : q < m) (h1 : ∀ p, p < q → (L.getD p Rw.zero).k ≠ k) (h2 : (L.getD q Rw.zero).k = k) => hRV.symm.trans (look_first k L q (by omega) h1 h2))
  have HNV := Lib.hid (fun (h : ∀ p, p < m → (L.getD p Rw.zero).k ≠ k) => hRV.symm.trans (look_never k L (fun p hp => h p (by omega))))
  have HL := Lib.hid hl
  have HZ0 := Lib.hid (fun q (hq : q < m) => hz _ (rw_mem (L := L) (k := q) (by omega)))
  obtain ⟨tk, htk⟩ : ∃ z, text k = z := ⟨_, rfl⟩
  rw [htk]
  have HTK := Lib.hid htk
  have hb := alloc_below w (.cells #[.string ⟨#[]⟩, .slice none 0 0] 30)
  have hr := heap_alloc_new w (.cells #[.string ⟨#[]⟩, .slice none 0 0] 30)
  have hsz : (w.alloc (.cells #[.string ⟨#[]⟩, .slice none 0 0] 30)).heap.size = w.heap.size + 1 := by simp
  clear hRV hl hz htk hll
  go_enter Try.func21, Try.ntmps21
  go_upto_region 1 with (fail)
  obtain ⟨B, hB⟩ : ∃ q, w.heap.size = q := ⟨_, rfl⟩
  have HBe := Lib.hid hB
  rw [hB] at hr hsz ⊢
  clear hB
  generalize w.alloc (.cells #[.string ⟨#[]⟩, .slice none 0 0] 30) = W1 at *
  have HSZ := Lib.hid hsz
  have HB1 := Lib.hid hb
  have HR1 := Lib.hid hr
  clear hb hr hsz
  go_wp2
  go_loopw [6] (fun j wr => ∃ q : Nat, q ≤ m ∧ j = .int .i64 (q : Int) ∧ (∀ p, p < q → (L.getD p Rw.zero).k ≠ k) ∧ Below W1.heap.size W1 wr) (fun j _ => m - (intOf j).toNat)
  case atStart => exact ⟨0, by omega, rfl, fun p hp => absurd hp (by omega), Below.refl _ _⟩
  case round =>
    obtain ⟨q, hq, rfl, hne, hbx⟩ := hrel
    have HNEV := Lib.hid hne
    have HBx := Lib.hid hbx
    have hz2 := heap_below HR1.out hbx
    clear hne hbx
    by_cases hlq : q < m
    · have hqi : (q : Int) < (m : Int) := by omega
      have hqc : (q : Int) < (cap : Int) := by omega
      obtain ⟨bo, offo, ao, no, co, rfl, eu, eno, hco, hro, hat⟩ := HL.out.place hlq
      have HF2 := Lib.hid (fun h2 => HF.out q hlq HNEV.out h2)
      have hnl := HZ0.out q hlq
      have HNX := Lib.hid (fun (h2 : (L.getD q Rw.zero).k ≠ k) p (hp : p < q + 1) => (show (L.getD p Rw.zero).k ≠ k from if e : p = q then e ▸ h2 else HNEV.out p (by omega)))
      obtain ⟨y, hy⟩ : ∃ y, L.getD q Rw.zero = y := ⟨_, rfl⟩
      rw [hy] at hat eu eno hro hco HF2 HNX hnl
      obtain ⟨ko, uo, cso⟩ := y
      simp only at hat eu eno hco hnl
      subst eu
      obtain ⟨to, hto⟩ : ∃ z, text ko = z := ⟨_, rfl⟩
      rw [hto] at hat
      have hte := text_eqb ko k
      rw [hto, HTK.out] at hte
      have HCP := Lib.hid (rcopy_c (hco.below (HB1.out.trans (HBx.out.mono HB1.out.size))) (by omega) to)
      have HTO := Lib.hid hto
      obtain ⟨o0, o1⟩ := hat _ (HB1.out.trans (HBx.out.mono HB1.out.size))
      obtain ⟨z0, z1, zf⟩ := row_cells hz2
      have HZ2 := Lib.hid hz2
      have HCO := Lib.hid hro
      clear hat hy hto hro hco hz2 eno hnl
      by_cases he : ko = k
      · subst he
        have hE : (ko == ko) = true := by simp
        rw [hE] at hte
        have HRR := Lib.hid (HF2.out rfl)
        clear HF2 HNX HNV HF
        go_wp2_with (go_at_call 45; (with_reducible refine HCP.out.mono ?_); rintro e9 w9 ⟨v9, rfl, ho9, hb9⟩; obtain ⟨a9, c9, rfl, -⟩ := ho9.cls; have hz9 := heap_below HZ2.out hb9; have HO9 := Lib.hid ho9; have HB9 := Lib.hid hb9; have HZ9 := Lib.hid hz9; clear ho9 hb9 z0 z1 zf; obtain ⟨z0, z1, zf⟩ := row_cells hz9; clear hz9)
        refine bodyPost_ret (res_cell_tmp rfl _ _ B 30 _ (0, 0) _ (.bool true) rfl rfl (row_set HZ9.out to (.slice a9 cso.length c9)) Try.underlying30 rfl (by kernel_rfl)) rfl ?_
        refine .inl ⟨_, _, _, HRR.out, by rw [← HTO.out, HTK.out], ?_,?_⟩
        · exact own_set (i := 1) (show (w9.setCell ⟨B, 0, none⟩ (.string to)).heap[B]? = _ from (heap_setCell_same _ _ 0 _ _ _ HZ9.out).trans rfl) (by decide) (own_set (i := 0) HZ9.out (by decide) (HO9.out.mono (Nat.le_trans HB1.out.size HBx.out.size)))
        · exact ((((HB1.out.trans (HBx.out.mono HB1.out.size)).trans (HB9.out.mono (Nat.le_trans HB1.out.size HBx.out.size))).setCell (p := ⟨B, 0, none⟩) (by have := HBe.out; simp; omega) _).setCell (p := ⟨B, 1, none⟩) (by have := HBe.out; simp; omega) _)
      · have hE : (ko == k) = false := by simp [he]
        rw [hE] at hte
        have HNN := Lib.hid (HNX.out he)
        clear HF2 HNX HCP
        go_wp2
        go_roundw
        case rel => exact ⟨q + 1, by omega, by go_num, HNN.out, HBx.out⟩
        case measure => simp [intOf]; omega
    · obtain rfl : m = q := by omega
      have HRR := Lib.hid (HNV.out HNEV.out)
      obtain ⟨z0, z1, zf⟩ := row_cells hz2
      have HZ2 := Lib.hid hz2
      clear hz2 HNV HF
      go_wp2
      refine bodyPost_ret (res_cell_tmp rfl _ _ B 30 _ (0, 0) _ (.bool false) rfl rfl (row_set HZ2.out ⟨#[]⟩ (.slice none 0 0)) Try.underlying30 rfl (by kernel_rfl)) rfl ?_
      exact .inr ⟨HRR.out, rfl, (((HB1.out.trans (HBx.out.mono HB1.out.size)).setCell (p := ⟨B, 0, none⟩) (by have := HBe.out; simp; omega) _).setCell (p := ⟨B, 1, none⟩) (by have := HBe.out; simp; omega) _)⟩
theorem with_few {gs : List Grp} {R : List Rp} (h : KAsc Op.bytesLess R) (r : Rp) : (withK Op.bytesLess opC bareS R r).length ≤ R.length + 1 := by
  have key : ∀ y : Rp, (insK Op.bytesLess R y).length ≤ R.length + 1 := fun y => by
    have e := setR_eq strictT (Prod.fst : Rp → List UInt8) ([], []) y R h
    have := setR_few (lt := Op.bytesLess) (Prod.fst : Rp → List UInt8) ([], []) y R
    rw [e] at this
    exact this
  unfold withK
  split
  · omega
  · split
    · exact key _
    · exact key _
/-- What With tells. -/
def WithPost (R : List Rp) (B0 : Nat) (w : World) (e : Ending) (w' : World) : Prop := ∃ a m cap NN, e = .returned (.slice a m cap) ∧ NN.map Rw.pr = R ∧ RwsIn w' B0 a m cap NN ∧ Below w.heap.size w w'
theorem with_bare {R : List Rp} {k : List UInt8} {u : List Cl} (h : bareS u = true) : withK Op.bytesLess opC bareS R (k, u) = R := by unfold withK; rw [if_pos h]
theorem with_old {R : List Rp} {k : List UInt8} {u old : List Cl} (h : bareS u = false) (hs : KAsc Op.bytesLess R) (ho : look R k = some old) : withK Op.bytesLess opC bareS R (k, u) = setR Op.bytesLess Prod.fst ([], []) (k, zipN old u old.length) R := by
  unfold withK
  rw [if_neg (by rw [h]; decide)]
  simp only [ho]
  rw [setR_eq strictT _ _ _ _ hs]
  rfl
theorem with_new {R : List Rp} {k : List UInt8} {u : List Cl} (h : bareS u = false) (hs : KAsc Op.bytesLess R) (ho : look R k = none) : withK Op.bytesLess opC bareS R (k, u) = setR Op.bytesLess Prod.fst ([], []) (k, u) R := by
  unfold withK
  rw [if_neg (by rw [h]; decide)]
  simp only [ho]
  rw [setR_eq strictT _ _ _ _ hs]
  rfl

set_option maxRecDepth 100000 in
set_option maxHeartbeats 6400000 in
theorem rwith_c {w : World} {x xl x2 : Option Addr} {n1 cap m capl n2 c2 B0 : Nat} {gs : List Grp} {L : List Rw} {cs : List Cl} (hg : Grs w x n1 cap gs) (hs : ∀ g ∈ gs, g.1.length ≤ 9223372036854775807) (hl : RwsIn w B0 xl m capl L) (hB0 : B0 ≤ w.heap.size) (hm : m ≤ 1000000)
    (hgd : ∀ r ∈ L, rgoodS gs r.k r.cs = 0) (hasc : KAsc Op.bytesLess (L.map Rw.pr)) (hc : Cls w x2 n2 c2 cs) (kr : List UInt8) (hgr : rgoodS gs kr cs = 0) :
    Calls Try.prog 82 #[.slice x n1 cap, .slice xl m capl, .agg #[.string (text kr), .slice x2 n2 c2]] w (WithPost (withK Op.bytesLess opC bareS (L.map Rw.pr) (kr, cs)) B0 w) := by
  have hcl := hc.len
  obtain ⟨-, hk32, -, hcs6, hct⟩ := rgood_short hgr
  have hn2 : n2 ≤ 1000000 := by omega
  have HBR := Lib.hid (fun W (h : Below w.heap.size w W) => rbare_c (hc.below h) (text kr))
  have HGT := Lib.hid (fun W (h : Below w.heap.size w W) => rget11_c (hl.below h) (fun r hr => (rgood_short (hgd r hr)).2.2.2.1) kr)
  have HJN := Lib.hid (fun (old : List Cl) (ho : look (L.map Rw.pr) kr = some old) W (h : Below w.heap.size w W) (u : Option Addr) (n c : Nat) (hu : Cls W u n c old) => (show Calls Try.prog 105 #[.slice x n1 cap, .agg #[.string (text kr), .slice u n c], .agg #[.string (text kr), .slice x2 n2 c2]] W (RowPost (kr, zipN old cs old.length, 0) W) from by
    have hgo : rgoodS gs kr old = 0 := by
      have h1 := look_mem ho
      obtain ⟨r, hr, e⟩ := List.mem_map.1 h1
      have h2 := hgd r hr
      have e1 : r.k = kr := congrArg Prod.fst e
      have e2 : r.cs = old := congrArg Prod.snd e
      rw [e1, e2] at h2
      exact h2
    have hj := rrowjoin_c (hg.below h) hs hu (fun c hc => Nat.le_trans ((rgood_short hgo).2.2.2.2 c hc) (by omega)) kr (by omega) (hc.below h) (fun c hc => Nat.le_trans (hct c hc) (by omega)) kr (by omega)
    rw [join_yes hgo hgr rfl] at hj
    exact hj))
  have HOL := Lib.hid (fun (old : List Cl) (ho : look (L.map Rw.pr) kr = some old) => (show old.length ≤ 1000000 from by
    have h1 := look_mem ho
    obtain ⟨r, hr, e⟩ := List.mem_map.1 h1
    have h2 := (rgood_short (hgd r hr)).2.2.2.1
    have e2 : r.cs = old := congrArg Prod.snd e
    rw [e2] at h2
    exact h2))
  have HST := Lib.hid (fun W (h : Below w.heap.size w W) (u : Option Addr) (n c : Nat) (cs' : List Cl) (hu : Cls W u n c cs') (hn : n ≤ 1000000) => rset_c (hl.below h) (Nat.le_trans hB0 h.size) hm hu hn kr)
  have HL := Lib.hid hl
  have HC := Lib.hid hc
  have HW0 := Lib.hid (fun h => @with_bare (L.map Rw.pr) kr cs h)
  have HW1 := Lib.hid (fun h old ho => @with_old (L.map Rw.pr) kr cs old h hasc ho)
  have HW2 := Lib.hid (fun h ho => @with_new (L.map Rw.pr) kr cs h hasc ho)
  obtain ⟨RV, hRV⟩ : ∃ z, withK Op.bytesLess opC bareS (L.map Rw.pr) (kr, cs) = z := ⟨_, rfl⟩
  rw [hRV] at HW0 HW1 HW2 ⊢
  obtain ⟨tr, htr⟩ : ∃ z, text kr = z := ⟨_, rfl⟩
  simp only [htr] at HBR HGT HJN HST ⊢
  have HTR := Lib.hid htr
  have hb := alloc_below w (.cells #[.string tr, .slice x2 n2 c2] 30)
  have hr := heap_alloc_new w (.cells #[.string tr, .slice x2 n2 c2] 30)
  clear hRV htr hl hc hg hgd hasc hgr hct hcs6 hs
  go_enter Try.func82, Try.ntmps82
  go_upto_region 1 with (fail)
  obtain ⟨B, hB⟩ : ∃ q, w.heap.size = q := ⟨_, rfl⟩
  have HBe := Lib.hid hB
  rw [hB] at hr ⊢
  clear hB
  generalize w.alloc (.cells #[.string tr, .slice x2 n2 c2] 30) = W1 at *
  have HB1 := Lib.hid hb
  have HR1 := Lib.hid hr
  obtain ⟨r0, r1, -⟩ := row_cells hr
  clear hb hr
  have HB1' := Lib.hid (HBR.out _ HB1.out)
  obtain ⟨BR, hBR⟩ : ∃ z, bareS cs = z := ⟨_, rfl⟩
  rw [hBR] at HW0 HW1 HW2 HB1'
  clear hBR HBR
  cases BR with
  | true =>
    have HRR := Lib.hid (HW0.out (by first | rfl | trivial))
    clear HW0 HW1 HW2 HGT HJN HST
    go_wp2_with (go_at_call 64; (with_reducible refine HB1'.out.mono ?_); rintro e9 w9 ⟨rfl, hb9⟩)
    go_ret
    exact ⟨_, _, _, L, rfl, HRR.out.symm, HL.out.below (HB1.out.trans (hb9.mono HB1.out.size)), HB1.out.trans (hb9.mono HB1.out.size)⟩
  | false =>
    go_upto_region 3 with (go_at_call 64; (with_reducible refine HB1'.out.mono ?_); rintro e9 w9 ⟨rfl, hb9⟩; have HX9 := Lib.hid hb9; clear hb9)
    have HB9 := Lib.hid (HB1.out.trans (HX9.out.mono HB1.out.size))
    have HR9 := Lib.hid (heap_below HR1.out HX9.out)
    clear r0 r1 HB1' HX9 HB1 HR1 HW0
    obtain ⟨r0, r1, -⟩ := row_cells HR9.out
    go_upto_region 4 with (go_at_call 21; (with_reducible refine (HGT.out _ HB9.out).mono ?_); rintro e9 wa hgot; rcases hgot with ⟨old, aa, ca, hlo, rfl, hoa, hba⟩ | ⟨hlo, rfl, hba⟩)
    · have hla := alloc_below wa (.cells #[.string tr, .slice aa old.length ca] 30)
      have HOA := Lib.hid (hoa.kept hla)
      have HRA := Lib.hid (heap_below (heap_below HR9.out hba) hla)
      have HBA := Lib.hid ((HB9.out.trans (hba.mono HB9.out.size)).trans (hla.mono (Nat.le_trans HB9.out.size hba.size)))
      have HNA := Lib.hid (heap_alloc_new wa (.cells #[.string tr, .slice aa old.length ca] 30))
      obtain ⟨A, hA⟩ : ∃ q, wa.heap.size = q := ⟨_, rfl⟩
      rw [hA] at HNA ⊢
      generalize wa.alloc (.cells #[.string tr, .slice aa old.length ca] 30) = WA at *
      clear hla hoa hba hA r0 r1 HR9 HB9 HGT HW2
      obtain ⟨r0, r1, -⟩ := row_cells HRA.out
      obtain ⟨n0, n1', -⟩ := row_cells HNA.out
      have HRR := Lib.hid (HW1.out (by first | rfl | trivial) old hlo)
      have HOLL := Lib.hid (HOL.out old hlo)
      have HJ := Lib.hid (HJN.out old hlo WA HBA.out)
      clear HW1 HJN hlo HOL
      obtain ⟨a9, c9, e9, hcl9⟩ := HOA.out.cls
      injection e9 with e9a e9b e9c
      subst e9a e9c
      have HJ2 := Lib.hid (HJ.out _ _ _ hcl9)
      clear HJ hcl9 e9b
      go_upto_region 6 with (go_at_call 105; (with_reducible refine HJ2.out.mono ?_); rintro e9 wb ⟨vb, rfl, hob, hbb⟩; obtain ⟨ab, cb, rfl, hclb⟩ := hob.cls; simp only [HTR.out])
      have hlb := alloc_below wb (.cells #[.string tr, .slice ab (zipN old cs old.length).length cb] 30)
      have HNB := Lib.hid (heap_alloc_new wb (.cells #[.string tr, .slice ab (zipN old cs old.length).length cb] 30))
      have HBB := Lib.hid ((HBA.out.trans (hbb.mono HBA.out.size)).trans (hlb.mono (Nat.le_trans HBA.out.size hbb.size)))
      have HSB := Lib.hid (HST.out _ HBB.out _ _ _ _ (hclb.below hlb) (by rw [zipN_len]; exact HOLL.out))
      obtain ⟨Bb, hBb⟩ : ∃ q, wb.heap.size = q := ⟨_, rfl⟩
      rw [hBb] at HNB ⊢
      generalize wb.alloc (.cells #[.string tr, .slice ab (zipN old cs old.length).length cb] 30) = WB at *
      clear hlb hob hbb hclb hBb r0 r1 n0 n1' HRA HBA HNA HST HJ2 HOA
      obtain ⟨n0, n1', -⟩ := row_cells HNB.out
      go_wp2_with (go_at_call 16; (with_reducible refine HSB.out.mono ?_); rintro e9 wc ⟨vc, NN, rfl, hpr, hoc, hbc⟩)
      go_ret
      obtain ⟨a5, c5, rfl, h5⟩ := hoc.ins
      exact ⟨_, _, _, NN, rfl, by rw [HRR.out]; exact hpr, h5, HBB.out.trans (hbc.mono HBB.out.size)⟩
    · have hla := alloc_below wa (.cells #[.string ⟨#[]⟩, .slice none 0 0] 30)
      have HRA := Lib.hid (heap_below (heap_below HR9.out hba) hla)
      have HBA := Lib.hid ((HB9.out.trans (hba.mono HB9.out.size)).trans (hla.mono (Nat.le_trans HB9.out.size hba.size)))
      have HRR := Lib.hid (HW2.out (by first | rfl | trivial) hlo)
      generalize wa.alloc (.cells #[.string ⟨#[]⟩, .slice none 0 0] 30) = WA at *
      clear hla hba r0 r1 HR9 HB9 HGT HW1 HW2 HJN
      obtain ⟨r0, r1, -⟩ := row_cells HRA.out
      have HSA := Lib.hid (HST.out _ HBA.out _ _ _ _ (HC.out.below HBA.out) hn2)
      go_wp2_with (go_at_call 16; (with_reducible refine HSA.out.mono ?_); rintro e9 wc ⟨vc, NN, rfl, hpr, hoc, hbc⟩)
      go_ret
      obtain ⟨a5, c5, rfl, h5⟩ := hoc.ins
      exact ⟨_, _, _, NN, rfl, by rw [HRR.out]; exact hpr, h5, HBA.out.trans (hbc.mono HBA.out.size)⟩

set_option maxRecDepth 100000 in
set_option maxHeartbeats 6400000 in
theorem rjoined_c {w : World} {x xa xb : Option Addr} {n1 cap ma capa mb capb B0 : Nat} {gs : List Grp} {LA LB : List Rw} (hg : Grs w x n1 cap gs) (hs : ∀ g ∈ gs, g.1.length ≤ 9223372036854775807) (ha : RwsIn w B0 xa ma capa LA) (hB0 : B0 ≤ w.heap.size) (hb : RwsAt w xb mb capb LB) (hm : ma + mb ≤ 1000000)
    (hga : ∀ r ∈ LA, rgoodS gs r.k r.cs = 0) (hasc : KAsc Op.bytesLess (LA.map Rw.pr)) (hgb : ∀ r ∈ LB, rgoodS gs r.k r.cs = 0) :
    Calls Try.prog 58 #[.slice x n1 cap, .slice xa ma capa, .slice xb mb capb] w (WithPost (joinedK Op.bytesLess opC bareS (LA.map Rw.pr) (LB.map Rw.pr)) B0 w) := by
  have hbl := hb.1.len
  have hble := hb.1.le
  have hbmx := hb.1.max
  have hal := ha.1.len
  have HJ := Lib.hid (show joinedK Op.bytesLess opC bareS (LA.map Rw.pr) (LB.map Rw.pr) = ((LB.take mb).map Rw.pr).foldl (withK Op.bytesLess opC bareS) (LA.map Rw.pr) by rw [← hbl, List.take_length]; rfl)
  obtain ⟨J, hJ⟩ : ∃ J : Nat → List Rp, J = fun i => ((LB.take i).map Rw.pr).foldl (withK Op.bytesLess opC bareS) (LA.map Rw.pr) := ⟨_, rfl⟩
  have HJ0 := Lib.hid (show J 0 = LA.map Rw.pr by rw [hJ]; rfl)
  have HJm := Lib.hid (show joinedK Op.bytesLess opC bareS (LA.map Rw.pr) (LB.map Rw.pr) = J mb by rw [hJ]; exact HJ.out)
  have HJS := Lib.hid (fun i (hi : i < mb) => (show J (i + 1) = withK Op.bytesLess opC bareS (J i) ((LB.getD i Rw.zero).k, (LB.getD i Rw.zero).cs) by
    rw [hJ]
    simp only
    rw [List.take_add_one, List.getElem?_eq_getElem (by omega), List.getD_eq_getElem?_getD, List.getElem?_eq_getElem (by omega)]
    simp only [Option.toList_some, List.map_append, List.foldl_append, List.map_cons, List.map_nil, List.foldl_cons, List.foldl_nil, Option.getD_some]
    rfl))
  -- what each stage is
  have hgood : ∀ i, i ≤ mb → KAsc Op.bytesLess (J i) ∧ (∀ r ∈ J i, rgoodS gs r.1 r.2 = 0) ∧ (J i).length ≤ ma + i := by
    intro i
    induction i with
    | zero => intro _; rw [HJ0.out]; exact ⟨hasc, fun r hr => by obtain ⟨y, hy, rfl⟩ := List.mem_map.1 hr; exact hga y hy, by rw [List.length_map]; omega⟩
    | succ i ih =>
      intro hi
      obtain ⟨h1, h2, h3⟩ := ih (by omega)
      rw [HJS.out i (by omega)]
      have hgi := hgb _ (rw_mem (L := LB) (k := i) (by omega))
      refine ⟨with_asc strictT _ _ h1 _, fun r hr => ?_, Nat.le_trans (with_few (gs := gs) h1 _) (by omega)⟩
      cases hbr : bareS (LB.getD i Rw.zero).cs with
      | true => rw [with_bare hbr] at hr; exact h2 r hr
      | false =>
        have hl := with_look strictT opC bareS (J i) ((LB.getD i Rw.zero).k, (LB.getD i Rw.zero).cs) hbr r.1
        have h5 := mem_look strictT (with_asc strictT opC bareS h1 ((LB.getD i Rw.zero).k, (LB.getD i Rw.zero).cs)) (show (r.1, r.2) ∈ _ from hr)
        rw [h5] at hl
        split at hl
        · rename_i e
          simp only at e
          cases ho : look (J i) r.1 with
          | none =>
            rw [ho] at hl
            simp only [jn, Option.some.injEq] at hl
            rw [hl, ← e]; exact hgi
          | some u =>
            rw [ho] at hl
            simp only [jn, Option.some.injEq] at hl
            rw [hl, ← e]
            have := h2 _ (look_mem ho)
            simp only at this
            rw [← e] at this
            exact zip_good this hgi
        · exact h2 _ (look_mem hl.symm)
  have HGOOD := Lib.hid hgood
  have HWT := Lib.hid (fun W (h : Below w.heap.size w W) (a : Option Addr) (m c : Nat) (NN : List Rw) (hn : RwsIn W B0 a m c NN) (i : Nat) (hi : i < mb) (he : NN.map Rw.pr = J i) (u : Option Addr) (n' c' : Nat) (hu : Cls W u n' c' (LB.getD i Rw.zero).cs) =>
    (show Calls Try.prog 82 #[.slice x n1 cap, .slice a m c, .agg #[.string (text (LB.getD i Rw.zero).k), .slice u n' c']] W (WithPost (J (i + 1)) B0 W) from by
      have h9 := hgood i (by omega)
      rw [HJS.out i hi, ← he]
      refine rwith_c (hg.below h) hs hn (Nat.le_trans hB0 h.size) ?_ (fun r hr => ?_) (by rw [he]; exact h9.1) hu _ (hgb _ (rw_mem (by omega)))
      · have e1 := congrArg List.length he
        rw [List.length_map, hn.1.len] at e1
        omega
      · exact h9.2.1 r.pr (by rw [← he]; exact List.mem_map_of_mem hr)))
  have HB := Lib.hid hb
  have HA := Lib.hid ha
  rw [HJm.out]
  clear HJ hJ hgood hga hasc hgb hg hs hb ha HGOOD
  go_enter Try.func58, Try.ntmps58
  go_wp2
  go_loopw [7, 8] (fun o j wr => ∃ (i : Nat) (a : Option Addr) (m c : Nat) (NN : List Rw), i ≤ mb ∧ j = .int .i64 (i : Int) ∧ o = .slice a m c ∧ NN.map Rw.pr = J i ∧ RwsIn wr B0 a m c NN ∧ Below w.heap.size w wr) (fun _ j _ => mb - (intOf j).toNat)
  case atStart => exact ⟨0, _, _, _, LA, by omega, rfl, rfl, HJ0.out.symm, HA.out, Below.refl _ _⟩
  case round =>
    obtain ⟨i, a, m, c, NN, hi, rfl, rfl, hpr, hn, hbx⟩ := hrel
    have HPR := Lib.hid hpr
    have HN := Lib.hid hn
    have HBX := Lib.hid hbx
    clear hpr hn hbx
    by_cases hlt : i < mb
    · have hii : (i : Int) < (mb : Int) := by omega
      have hic : (i : Int) < (capb : Int) := by omega
      obtain ⟨bb, offb, ab, nb, cb, rfl, eu, enb, hcb, hat⟩ := HB.out.place hlt
      obtain ⟨o0, o1⟩ := hat _ HBX.out
      have HC := Lib.hid (HWT.out wr HBX.out _ _ _ NN HN.out i hlt HPR.out _ _ _ (hcb.below HBX.out))
      obtain ⟨tb, htb⟩ : ∃ z, text (LB.getD i Rw.zero).k = z := ⟨_, rfl⟩
      rw [htb] at o0
      simp only [htb] at HC
      clear hat hcb eu enb htb HN
      go_wp2_with (go_at_call 82; (with_reducible refine HC.out.mono ?_); rintro e9 w9 ⟨a9, m9, c9, N9, rfl, hp9, hn9, hb9⟩)
      go_roundw
      case rel => exact ⟨i + 1, _, _, _, N9, by omega, by go_num, rfl, hp9, hn9, HBX.out.trans (hb9.mono HBX.out.size)⟩
      case measure => simp [intOf]; omega
    · obtain rfl : mb = i := by omega
      go_wp2
      go_ret
      exact ⟨_, _, _, NN, rfl, HPR.out, HN.out, HBX.out⟩
end Go.Proofs.Ytidbjmkfmfojdaa
end

section
namespace Go.Proofs.Ytidbjmkfmfojdaa
open Go.RowKit Go Go.Sort
set_option linter.unusedVariables false
set_option maxRecDepth 20000

instance : DecidableEq Cl := fun x y => if h : sameC x y = true then isTrue ((same_iff x y).1 h) else isFalse fun e => h ((same_iff x y).2 e)
theorem list_ext_getD {α : Type} {z : α} {a b : List α} (hl : a.length = b.length) (h : ∀ j, j < a.length → a.getD j z = b.getD j z) : a = b := by
  apply List.ext_getElem hl
  intro j h1 h2
  have := h j h1
  rwa [List.getD_eq_getElem?_getD, List.getD_eq_getElem?_getD, List.getElem?_eq_getElem h1, List.getElem?_eq_getElem h2] at this
set_option maxRecDepth 100000 in
set_option maxHeartbeats 6400000 in
theorem eqcells_c {w : World} {a b : Option Addr} {m ca m2 cb : Nat} {la lb : List Cl} (ha : Cls w a m ca la) (hb : Cls w b m2 cb lb) :
    Calls Try.prog 90 #[.slice a m ca, .slice b m2 cb] w (Tells (.bool (decide (la = lb))) w) := by
  have hal := ha.len
  have hale := ha.le
  have hamx := ha.max
  have hbl := hb.len
  have hble := hb.le
  have hbmx := hb.max
  by_cases hm : m = m2
  · subst hm
    have HCA := Lib.hid ha
    have HCB := Lib.hid hb
    have HAL := Lib.hid hal
    have HBL := Lib.hid hbl
    clear ha hb hal hbl
    have hmi : (m != m) = false := by simp
    go_enter Try.func90, Try.ntmps90
    go_upto_region 4 with (fail)
    go_loopw [13] (fun i wr => ∃ k : Nat, k ≤ m ∧ i = .int .i64 (k : Int) ∧ (∀ j, j < k → la.getD j Cl.zero = lb.getD j Cl.zero) ∧ Below w.heap.size w wr) (fun i _ => m - (intOf i).toNat)
    case atStart => exact ⟨0, by omega, rfl, fun j hj => by omega, Below.refl _ _⟩
    case round =>
      obtain ⟨k, hk, rfl, he, hB⟩ := hrel
      have HE := Lib.hid he
      have HB := Lib.hid hB
      clear he hB
      by_cases hkm : k < m
      · have hki : (k : Int) < (m : Int) := by omega
        have hkc : (k : Int) < (ca : Int) := by omega
        have hkc2 : (k : Int) < (cb : Int) := by omega
        obtain ⟨ba, offa, rfl, hata⟩ := HCA.out.at hkm
        obtain ⟨bb, offb, rfl, hatb⟩ := HCB.out.at hkm
        obtain ⟨x, hx⟩ : ∃ x, la.getD k Cl.zero = x := ⟨_, rfl⟩
        obtain ⟨y, hy⟩ : ∃ y, lb.getD k Cl.zero = y := ⟨_, rfl⟩
        rw [hx] at hata
        rw [hy] at hatb
        have HX := Lib.hid hx
        have HY := Lib.hid hy
        clear hx hy
        obtain ⟨n1, s1, a1, b1, g1, t1, d1, e1⟩ := x
        obtain ⟨n2, s2, a2, b2, g2, t2, d2, e2⟩ := y
        obtain ⟨C, hC⟩ : ∃ z, sameC ⟨n1, s1, a1, b1, g1, t1, d1, e1⟩ ⟨n2, s2, a2, b2, g2, t2, d2, e2⟩ = z := ⟨_, rfl⟩
        have hcn := cell_neb n1 s1 a1 b1 g1 t1 d1 e1 n2 s2 a2 b2 g2 t2 d2 e2 C hC
        have hceg := cell_eqg
        have HC := Lib.hid hC
        have HA := Lib.hid (fun W (h : Below wr.heap.size wr W) => hata W (HB.out.trans (h.mono HB.out.size)))
        have HB8 := Lib.hid (fun W (h : Below wr.heap.size wr W) => hatb W (HB.out.trans (h.mono HB.out.size)))
        clear hata hatb hC
        go_upto_region 6 with (fail)
        refine wp_region_flow [none,none,none,none,none,none,none,none,none,none,none,none,none,none,none,none, some 0, some 1, some 2, some 3, some 4, some 5, some 6, some 7, some 8, none] (fun i => [u16, u17, u18, u19, u20, u21, u22, u23, u24].getD i undef) [(fun v _ => v = .slice (some ⟨ba, offa, none⟩) m ca), (fun v _ => v = .int .i64 (k : Int)), (fun v _ => v = .pointer (some ⟨ba, offa + k * 8, none⟩)), (fun v _ => v = .agg #[.int .i64 n1, .int .i64 s1, .int .i64 a1, .int .i64 b1, .bool g1, .string (text t1), .int .i64 d1, .int .i64 e1]), (fun v _ => v = .slice (some ⟨bb, offb, none⟩) m cb), (fun v _ => v = .int .i64 (k : Int)), (fun v _ => v = .pointer (some ⟨bb, offb + k * 8, none⟩)), (fun v _ => v = .agg #[.int .i64 n2, .int .i64 s2, .int .i64 a2, .int .i64 b2, .bool g2, .string (text t2), .int .i64 d2, .int .i64 e2]), (fun v _ => v = .bool (!C))] (by kernel_rfl) (by kernel_rfl) rfl rfl rfl ?_ ?_ ?_
        · intro g hg v X Y hX hY hv
          simp only [List.mem_cons, List.not_mem_nil, or_false] at hg
          rcases hg with rfl | rfl | rfl | rfl | rfl | rfl | rfl | rfl | rfl
          all_goals first
            | exact hv
            | exact hv.kept hY
        · simp only [flowOps, and_true]
          refine ⟨?_,?_,?_,?_,?_,?_,?_,?_,?_⟩
          · intro xs W hW hn
            simp only [flowAct, zwc, zwn]
            go_wp2_with (fail)
            exact ⟨rfl, _, rfl, Below.refl _ _, rfl⟩
          · intro xs W hW hn
            simp only [flowAct, zwc, zwn]
            go_wp2_with (fail)
            exact ⟨rfl, _, rfl, Below.refl _ _, rfl⟩
          · intro xs W hW hn
            simp [flowNeeds, Region.binds] at hn
            simp only [flowAct, zwc, zwn]
            try simp only [hn]
            go_wp2_with (fail)
            exact ⟨rfl, _, rfl, Below.refl _ _, rfl⟩
          · intro xs W hW hn
            obtain ⟨p0, p1, p2, p3, p4, p5, p6, p7⟩ := HA.out W hW
            simp [flowNeeds, Region.binds] at hn
            simp only [flowAct, zwc, zwn]
            try simp only [hn]
            go_wp2_with (fail)
            exact ⟨rfl, _, rfl, Below.refl _ _, rfl⟩
          · intro xs W hW hn
            simp only [flowAct, zwc, zwn]
            go_wp2_with (fail)
            exact ⟨rfl, _, rfl, Below.refl _ _, rfl⟩
          · intro xs W hW hn
            simp only [flowAct, zwc, zwn]
            go_wp2_with (fail)
            exact ⟨rfl, _, rfl, Below.refl _ _, rfl⟩
          · intro xs W hW hn
            simp [flowNeeds, Region.binds] at hn
            simp only [flowAct, zwc, zwn]
            try simp only [hn]
            go_wp2_with (fail)
            exact ⟨rfl, _, rfl, Below.refl _ _, rfl⟩
          · intro xs W hW hn
            obtain ⟨q0, q1, q2, q3, q4, q5, q6, q7⟩ := HB8.out W hW
            simp [flowNeeds, Region.binds] at hn
            simp only [flowAct, zwc, zwn]
            try simp only [hn]
            go_wp2_with (fail)
            exact ⟨rfl, _, rfl, Below.refl _ _, rfl⟩
          · intro xs W hW hn
            simp [flowNeeds, Region.binds] at hn
            simp only [flowAct, zwc, zwn]
            try simp only [hn]
            go_wp2_with (fail)
            exact ⟨rfl, _, rfl, Below.refl _ _, rfl⟩
        · intro xs W hW hall
          simp only [flowAll, and_true, Nat.zero_add, Nat.reduceAdd] at hall
          obtain ⟨-,-,-,-,-,-,-,-, e8⟩ := hall
          simp only [flowAct, zwc, zwn]
          simp only [e8]
          have HB5 := Lib.hid (HB.out.trans (hW.mono HB.out.size))
          clear hW e8 HA HB8 hcn hceg
          cases C with
          | true =>
            have HCT := Lib.hid ((same_iff _ _).1 HC.out)
            go_wp2
            go_roundw
            case rel =>
              refine ⟨k + 1, by omega, by go_num, fun j hj => ?_, HB5.out⟩
              by_cases e : j = k
              · subst e; rw [HX.out, HY.out]; exact HCT.out
              · exact HE.out j (by omega)
            case measure => simp [intOf]; omega
          | false =>
            have HNE := Lib.hid (show ¬ la = lb from fun e => by
              subst e
              have h1 := HC.out
              rw [HX.out] at HY
              have h2 := HY.out
              rw [h2, (same_iff _ _).2 rfl] at h1
              cases h1)
            have HD := Lib.hid (show decide (la = lb) = false from decide_eq_false HNE.out)
            go_wp2
            go_ret
            exact ⟨by rw [HD.out]; rfl, HB5.out⟩
      · obtain rfl : k = m := by omega
        have HD := Lib.hid (show decide (la = lb) = true from decide_eq_true (list_ext_getD (z := Cl.zero) (by rw [HAL.out, HBL.out]) (by rw [HAL.out]; exact HE.out)))
        go_wp2
        go_ret
        exact ⟨by rw [HD.out]; rfl, HB.out⟩
  · have hmi : ¬ (m : Int) = (m2 : Int) := by omega
    have hmb : ((m : Int) == (m2 : Int)) = false := by rw [beq_eq_false_iff_ne]; exact hmi
    have HD := Lib.hid (show decide (la = lb) = false from decide_eq_false fun e => hm (by rw [← hal, ← hbl, e]))
    clear ha hb hal hbl
    go_enter Try.func90, Try.ntmps90
    go_wp2
    go_ret
    exact ⟨by rw [HD.out]; rfl, Below.refl _ _⟩
end Go.Proofs.Ytidbjmkfmfojdaa
end

section
namespace Go.Proofs.Ytidbjmkfmfojdaa
open Go.RowKit Go Go.Sort
set_option linter.unusedVariables false
set_option maxRecDepth 20000

set_option maxRecDepth 100000 in
set_option maxHeartbeats 6400000 in
theorem same_c {w : World} {a b : Option Addr} {m ca m2 cb : Nat} {la lb : List Cl} (ha : Cls w a m ca la) (hb : Cls w b m2 cb lb) (k k2 : List UInt8) :
    Calls Try.prog 66 #[.agg #[.string (text k), .slice a m ca], .agg #[.string (text k2), .slice b m2 cb]] w (Tells (.bool (k == k2 && decide (la = lb))) w) := by
  have hb1 := alloc_below w (.cells #[.string (text k), .slice a m ca] 30)
  have hn1 := heap_alloc_new w (.cells #[.string (text k), .slice a m ca] 30)
  have hs1 := World.size_alloc w (.cells #[.string (text k), .slice a m ca] 30)
  have hb2 := alloc_below (w.alloc (.cells #[.string (text k), .slice a m ca] 30)) (.cells #[.string (text k2), .slice b m2 cb] 30)
  have hn2 := heap_alloc_new (w.alloc (.cells #[.string (text k), .slice a m ca] 30)) (.cells #[.string (text k2), .slice b m2 cb] 30)
  have hn1' := heap_below hn1 hb2
  have hb12 := hb1.trans (hb2.mono hb1.size)
  rw [hs1] at hn2
  have HQ := Lib.hid (eqcells_c (ha.below hb12) (hb.below hb12))
  have HB := Lib.hid hb12
  have HN := Lib.hid (And.intro hn1' hn2)
  have hte := text_eqb k k2
  obtain ⟨u, hu⟩ : ∃ z, text k = z := ⟨_, rfl⟩
  obtain ⟨u', hu'⟩ : ∃ z, text k2 = z := ⟨_, rfl⟩
  obtain ⟨R, hR⟩ : ∃ z, (k == k2) = z := ⟨_, rfl⟩
  obtain ⟨D, hD⟩ : ∃ z, decide (la = lb) = z := ⟨_, rfl⟩
  rw [hu, hu', hR] at hte
  rw [hu, hu', hD] at HQ
  rw [hu, hu'] at HB HN
  rw [hu, hu', hR, hD]
  clear ha hb hb1 hn1 hs1 hb2 hn2 hn1' hb12 hu hu' hR hD
  go_enter Try.func66, Try.ntmps66
  go_upto_region 1 with (fail)
  obtain ⟨q, hq⟩ : ∃ z, w.heap.size = z := ⟨_, rfl⟩
  rw [hq] at HN HB ⊢
  generalize (w.alloc (.cells #[.string u, .slice a m ca] 30)).alloc (.cells #[.string u', .slice b m2 cb] 30) = W at *
  have c0 : W.cell? ⟨q, 0, none⟩ = some (.string u) := by rw [cell_of_row _ q 0 _ _ (0, 0) HN.out.1]; rfl
  have c1 : W.cell? ⟨q, 1, none⟩ = some (.slice a m ca) := by rw [cell_of_row _ q 1 _ _ (0, 0) HN.out.1]; rfl
  have c2 : W.cell? ⟨q + 1, 0, none⟩ = some (.string u') := by rw [cell_of_row _ (q + 1) 0 _ _ (0, 0) HN.out.2]; rfl
  have c3 : W.cell? ⟨q + 1, 1, none⟩ = some (.slice b m2 cb) := by rw [cell_of_row _ (q + 1) 1 _ _ (0, 0) HN.out.2]; rfl
  cases R with
  | true =>
    go_wp2_with (go_at_call 90; (with_reducible refine HQ.out.mono ?_); rintro e9 w9 ⟨rfl, hb9⟩)
    go_ret
    have hb8 := HB.out.size; rw [hq] at hb8; exact ⟨by simp, by rw [hq]; exact HB.out.trans (hb9.mono hb8)⟩
  | false =>
    go_wp2
    go_ret
    exact ⟨by simp, by rw [hq]; exact HB.out⟩
end Go.Proofs.Ytidbjmkfmfojdaa
end

section
namespace Go.Proofs.Ytidbjmkfmfojdaa
open Go.RowKit Go Go.Sort
set_option linter.unusedVariables false
set_option maxRecDepth 20000

theorem prs_getD {L : List Rw} {j : Nat} (hj : j < L.length) : (L.map Rw.pr).getD j ([], []) = (L.getD j Rw.zero).pr := by
  simp [List.getD_eq_getElem?_getD, hj]
set_option maxRecDepth 100000 in
set_option maxHeartbeats 6400000 in
theorem eqrows_c {w : World} {a b : Option Addr} {m ca m2 cb : Nat} {LA LB : List Rw} (ha : RwsAt w a m ca LA) (hb : RwsAt w b m2 cb LB) :
    Calls Try.prog 65 #[.slice a m ca, .slice b m2 cb, .func (.func 66) #[] #[]] w (Tells (.bool (decide (LA.map Rw.pr = LB.map Rw.pr))) w) := by
  have hal := ha.1.len
  have hale := ha.1.le
  have hamx := ha.1.max
  have hbl := hb.1.len
  have hble := hb.1.le
  have hbmx := hb.1.max
  by_cases hm : m = m2
  · subst hm
    have HCA := Lib.hid ha
    have HCB := Lib.hid hb
    have HAL := Lib.hid hal
    have HBL := Lib.hid hbl
    clear ha hb hal hbl
    have hmi : (m != m) = false := by simp
    obtain ⟨R, hR⟩ : ∃ z, decide (LA.map Rw.pr = LB.map Rw.pr) = z := ⟨_, rfl⟩
    rw [hR]
    have HR := Lib.hid hR
    clear hR
    go_enter Try.func65, Try.ntmps65
    go_upto_region 4 with (fail)
    go_loopw [17] (fun i wr => ∃ k : Nat, k ≤ m ∧ i = .int .i64 (k : Int) ∧ (∀ j, j < k → (LA.getD j Rw.zero).pr = (LB.getD j Rw.zero).pr) ∧ Below w.heap.size w wr) (fun i _ => m - (intOf i).toNat)
    case atStart => exact ⟨0, by omega, rfl, fun j hj => by omega, Below.refl _ _⟩
    case round =>
      obtain ⟨k, hk, rfl, he, hB⟩ := hrel
      have HE := Lib.hid he
      have HB := Lib.hid hB
      clear he hB
      by_cases hkm : k < m
      · have hki : (k : Int) < (m : Int) := by omega
        have hkc : (k : Int) < (ca : Int) := by omega
        have hkc2 : (k : Int) < (cb : Int) := by omega
        obtain ⟨ba, offa, aa, na, cca, rfl, hua, hna, hca, hata⟩ := HCA.out.place hkm
        obtain ⟨bb, offb, ab, nb, ccb, rfl, hub, hnb, hcb, hatb⟩ := HCB.out.place hkm
        obtain ⟨x, hx⟩ : ∃ x, LA.getD k Rw.zero = x := ⟨_, rfl⟩
        obtain ⟨y, hy⟩ : ∃ y, LB.getD k Rw.zero = y := ⟨_, rfl⟩
        rw [hx] at hata hca hna
        rw [hy] at hatb hcb hnb
        obtain ⟨kx, ux, csx⟩ := x
        obtain ⟨ky, uy, csy⟩ := y
        simp only at hata hca hna hatb hcb hnb
        have HX := Lib.hid hx
        have HY := Lib.hid hy
        obtain ⟨a0, a1⟩ := hata _ HB.out
        have HBT := Lib.hid hatb
        have HSC := Lib.hid (fun (W : World) (h : Below w.heap.size w W) => same_c (hca.below h) (hcb.below h) kx ky)
        obtain ⟨C, hC⟩ : ∃ z, (kx == ky && decide (csx = csy)) = z := ⟨_, rfl⟩
        rw [hC] at HSC
        have HC := Lib.hid hC
        clear hua hub hna hnb hca hcb hata hatb hx hy hC
        go_upto_region 6 with (fail)
        have hb1 := alloc_below wr (.cells #[.string (text kx), .slice aa na cca] 30)
        have hn1 := heap_alloc_new wr (.cells #[.string (text kx), .slice aa na cca] 30)
        have hs1 := World.size_alloc wr (.cells #[.string (text kx), .slice aa na cca] 30)
        have hB1 := HB.out.trans (hb1.mono HB.out.size)
        obtain ⟨q, hq⟩ : ∃ z, wr.heap.size = z := ⟨_, rfl⟩
        rw [hq] at hn1 hs1 ⊢
        obtain ⟨b0, b1⟩ := HBT.out _ hB1
        clear hb1 a0 a1
        have HQW := Lib.hid (show w.heap.size ≤ q by rw [← hq]; exact HB.out.size)
        clear hq
        generalize wr.alloc (.cells #[.string (text kx), .slice aa na cca] 30) = W1 at *
        go_upto_region 7 with (fail)
        have hb2 := alloc_below W1 (.cells #[.string (text ky), .slice ab nb ccb] 30)
        have hn2 := heap_alloc_new W1 (.cells #[.string (text ky), .slice ab nb ccb] 30)
        have hn3 := heap_below hn1 hb2
        have hB2 := hB1.trans (hb2.mono hB1.size)
        rw [hs1] at hn2
        clear hb2 hn1 hs1 b0 b1
        generalize W1.alloc (.cells #[.string (text ky), .slice ab nb ccb] 30) = W2 at *
        have c0 : W2.cell? ⟨q, 0, none⟩ = some (.string (text kx)) := by rw [cell_of_row _ q 0 _ _ (0, 0) hn3]; rfl
        have c1 : W2.cell? ⟨q, 1, none⟩ = some (.slice aa na cca) := by rw [cell_of_row _ q 1 _ _ (0, 0) hn3]; rfl
        have c2 : W2.cell? ⟨q + 1, 0, none⟩ = some (.string (text ky)) := by rw [cell_of_row _ (q + 1) 0 _ _ (0, 0) hn2]; rfl
        have c3 : W2.cell? ⟨q + 1, 1, none⟩ = some (.slice ab nb ccb) := by rw [cell_of_row _ (q + 1) 1 _ _ (0, 0) hn2]; rfl
        have HSM := Lib.hid (HSC.out _ hB2)
        have HB2 := Lib.hid hB2
        clear hn2 hn3 hB1 hB2 HSC
        cases C with
        | true =>
          have HCC := Lib.hid (show (⟨kx, ux, csx⟩ : Rw).pr = (⟨ky, uy, csy⟩ : Rw).pr by
            have h := HC.out
            rw [Bool.and_eq_true, beq_iff_eq, decide_eq_true_eq] at h
            show (kx, csx) = (ky, csy)
            rw [h.1, h.2])
          go_wp2_with (go_at_call 66; (with_reducible refine HSM.out.mono ?_); rintro e9 w9 ⟨rfl, hb9⟩)
          case roundEnd =>
            refine ⟨⟨k + 1, by omega, by go_num, fun j hj => ?_, HB2.out.trans (hb9.mono HB2.out.size)⟩, by simp [intOf]; omega⟩
            by_cases e : j = k
            · subst e; rw [HX.out, HY.out]; exact HCC.out
            · exact HE.out j (by omega)
        | false =>
          have HD := Lib.hid (show R = false by
            rw [← HR.out]
            refine decide_eq_false fun e => ?_
            have h1 := prs_getD (L := LA) (j := k) (by rw [HAL.out]; exact hkm)
            rw [e, prs_getD (by rw [HBL.out]; exact hkm), HX.out, HY.out] at h1
            have h2 : ky = kx ∧ csy = csx := by injection h1 with h1 h2; exact ⟨h1, h2⟩
            have h := HC.out
            rw [h2.1, h2.2] at h
            simp at h)
          go_wp2_with (go_at_call 66; (with_reducible refine HSM.out.mono ?_); rintro e9 w9 ⟨rfl, hb9⟩)
          go_ret
          exact ⟨by rw [HD.out]; rfl, HB2.out.trans (hb9.mono HB2.out.size)⟩
      · obtain rfl : k = m := by omega
        have HD := Lib.hid (show R = true by
          rw [← HR.out]
          refine decide_eq_true (list_ext_getD (z := ([], [])) (by rw [List.length_map, List.length_map, HAL.out, HBL.out]) fun j hj => ?_)
          rw [List.length_map] at hj
          rw [prs_getD hj, prs_getD (by rw [HBL.out, ← HAL.out]; exact hj)]
          exact HE.out j (by rw [← HAL.out]; exact hj))
        go_wp2
        go_ret
        exact ⟨by rw [HD.out]; rfl, HB.out⟩
  · have hmi : ¬ (m : Int) = (m2 : Int) := by omega
    have hmb : ((m : Int) == (m2 : Int)) = false := by rw [beq_eq_false_iff_ne]; exact hmi
    have HD := Lib.hid (show decide (LA.map Rw.pr = LB.map Rw.pr) = false from decide_eq_false fun e => hm (by have := congrArg List.length e; rw [List.length_map, List.length_map] at this; omega))
    clear ha hb hal hbl
    go_enter Try.func65, Try.ntmps65
    go_wp2
    go_ret
    exact ⟨by rw [HD.out]; rfl, Below.refl _ _⟩
end Go.Proofs.Ytidbjmkfmfojdaa
end

section
namespace Go.Proofs.Ytidbjmkfmfojdaa
open Go.RowKit Go Go.Sort
set_option linter.unusedVariables false
set_option maxRecDepth 20000

/-- What Merge tells. -/
def mgeS (gs : List Grp) (A B : List Rp) : List Rp × Int := if ¬ mgoodS gs A = 0 then ([], mgoodS gs A) else if ¬ mgoodS gs B = 0 then ([], mgoodS gs B) else (mrg Op.bytesLess opC A B, 0)
theorem mge_a {gs : List Grp} {A B : List Rp} (h : ¬ mgoodS gs A = 0) : mgeS gs A B = ([], mgoodS gs A) := by unfold mgeS; rw [if_pos h]
theorem mge_b {gs : List Grp} {A B : List Rp} (h0 : mgoodS gs A = 0) (h : ¬ mgoodS gs B = 0) : mgeS gs A B = ([], mgoodS gs B) := by unfold mgeS; rw [if_neg (not_not_intro h0), if_pos h]
theorem mge_ok {gs : List Grp} {A B : List Rp} (h0 : mgoodS gs A = 0) (h : mgoodS gs B = 0) : mgeS gs A B = (mrg Op.bytesLess opC A B, 0) := by unfold mgeS; rw [if_neg (not_not_intro h0), if_neg (not_not_intro h)]
theorem idx_two (xs : Array Value) (k : Nat) (hk : k < 2) {v : Value} (hv : xs[k]? = some v) (h1 : v.oneCell' = true) (W : World) : (Instr.index 113 (.agg xs) (.int .i64 (k : Int))).run Try.prog W = .ok v W := by
  have hi : (Try.prog.info? 27).map (fun i => (i.zero, i.size, i.bytes)) = some (some (.slice none 0 0), 1, 24) := by kernel_rfl
  obtain ⟨i0, hi, hz0, hz1, hz2⟩ := info_parts hi
  simp [Instr.index, run_underlying Try.underlying113, asIntOf, hk, hv, sizeOf, typeInfo, hi, hz1, go_sem]
theorem two0 (a b : Option Addr) (n c m d : Nat) (W : World) : (Instr.index 113 (.agg #[.slice a n c, .slice b m d]) (.int .i64 0)).run Try.prog W = .ok (.slice a n c) W := idx_two _ 0 (by decide) rfl rfl W
theorem two1 (a b : Option Addr) (n c m d : Nat) (W : World) : (Instr.index 113 (.agg #[.slice a n c, .slice b m d]) (.int .i64 1)).run Try.prog W = .ok (.slice b m d) W := idx_two _ 1 (by decide) rfl rfl W
set_option maxRecDepth 100000 in
set_option maxHeartbeats 6400000 in
theorem mmerge_c {w : World} {x xa xb : Option Addr} {n1 cap ma capa mb capb : Nat} {gs : List Grp} {LA LB : List Rw} (hg : Grs w x n1 cap gs) (hs : ∀ g ∈ gs, g.1.length ≤ 9223372036854775807) (ha : RwsAt w xa ma capa LA) (hb : RwsAt w xb mb capb LB) (hsa : RShort LA) (hsb : RShort LB) (hm : ma + mb ≤ 1000000) :
    Calls Try.prog 32 #[.slice x n1 cap, .slice xa ma capa, .slice xb mb capb] w (StPost (mgeS gs (LA.map Rw.pr) (LB.map Rw.pr)) n1 w) := by
  have HGA := Lib.hid (mgood_c hg hs ha hsa)
  have HGB := Lib.hid (fun W (h : Below w.heap.size w W) => mgood_c (hg.below h) hs (hb.below h) hsb)
  have HMM := Lib.hid (fun W (h : Below w.heap.size w W) (h1 : mgoodS gs (LA.map Rw.pr) = 0) (h2 : mgoodS gs (LB.map Rw.pr) = 0) => by
    have i1 := mgood_iff.1 h1
    have i2 := mgood_iff.1 h2
    have hp := pgood_len i1.1
    have hp2 := pgood_pos i1.1
    have hgl := hg.len
    exact mmerged_c (hg.below h) hs (ha.below h) (hb.below h) (fun r hr => i1.good r.pr (List.mem_map.2 ⟨r, hr, rfl⟩)) (fun r hr => i2.good r.pr (List.mem_map.2 ⟨r, hr, rfl⟩)) hm (by omega) (by omega))
  have HEA := Lib.hid (fun (h : ¬ mgoodS gs (LA.map Rw.pr) = 0) => mge_a (B := LB.map Rw.pr) h)
  have HEB := Lib.hid (fun (h0 : mgoodS gs (LA.map Rw.pr) = 0) (h : ¬ mgoodS gs (LB.map Rw.pr) = 0) => mge_b (B := LB.map Rw.pr) h0 h)
  have HEO := Lib.hid (fun (h0 : mgoodS gs (LA.map Rw.pr) = 0) (h : mgoodS gs (LB.map Rw.pr) = 0) => mge_ok (B := LB.map Rw.pr) h0 h)
  obtain ⟨RV, hRV⟩ : ∃ z, mgeS gs (LA.map Rw.pr) (LB.map Rw.pr) = z := ⟨_, rfl⟩
  rw [hRV] at HEA HEB HEO ⊢
  obtain ⟨GA, hGA⟩ : ∃ z, mgoodS gs (LA.map Rw.pr) = z := ⟨_, rfl⟩
  obtain ⟨GB, hGB⟩ : ∃ z, mgoodS gs (LB.map Rw.pr) = z := ⟨_, rfl⟩
  rw [hGA] at HGA HEA HEB HEO
  rw [hGB] at HEB HEO
  simp only [hGA, hGB] at HMM
  simp only [hGB] at HGB
  clear hRV hGA hGB hg hs ha hb hsa hsb hm
  have t0 := two0 xa xb ma capa mb capb
  have t1 := two1 xa xb ma capa mb capb
  go_enter Try.func32, Try.ntmps32
  go_upto_region 2 with (fail)
  go_loopw [9, 10, 14] (fun v e i wr => (i = .int .i64 0 ∧ wr = w) ∨ (i = .int .i64 1 ∧ GA = 0 ∧ Below w.heap.size w wr) ∨ (i = .int .i64 2 ∧ GA = 0 ∧ GB = 0 ∧ Below w.heap.size w wr)) (fun _ _ i _ => 2 - (intOf i).toNat)
  case atStart => exact .inl ⟨rfl, rfl⟩
  case round =>
    rcases hrel with ⟨rfl, rfl⟩ | ⟨rfl, h0, hB⟩ | ⟨rfl, h0, h1, hB⟩
    · by_cases hz : GA = 0
      · subst hz
        go_wp2_with (go_at_call 34; (with_reducible refine HGA.out.mono ?_); rintro e9 w9 ⟨rfl, hb9⟩)
        go_roundw
        case rel => exact .inr (.inl ⟨rfl, by first | rfl | trivial, hb9⟩)
        case measure => simp [intOf]
      · have HRR := Lib.hid (HEA.out hz)
        go_wp2_with (go_at_call 34; (with_reducible refine HGA.out.mono ?_); rintro e9 w9 ⟨rfl, hb9⟩)
        go_ret2
        exact ⟨_, [], by rw [HRR.out]; rfl, by rw [HRR.out]; rfl, OwnRw.nil _ _ _, hb9⟩
    · by_cases hz : GB = 0
      · subst hz
        have HG1 := Lib.hid (HGB.out _ hB)
        have HB1 := Lib.hid hB
        clear hB
        go_wp2_with (go_at_call 34; (with_reducible refine HG1.out.mono ?_); rintro e9 w9 ⟨rfl, hb9⟩)
        go_roundw
        case rel => exact .inr (.inr ⟨rfl, h0, by first | rfl | trivial, HB1.out.trans (hb9.mono HB1.out.size)⟩)
        case measure => simp [intOf]
      · have HRR := Lib.hid (HEB.out h0 hz)
        have HG1 := Lib.hid (HGB.out _ hB)
        have HB1 := Lib.hid hB
        clear hB
        go_wp2_with (go_at_call 34; (with_reducible refine HG1.out.mono ?_); rintro e9 w9 ⟨rfl, hb9⟩)
        go_ret2
        exact ⟨_, [], by rw [HRR.out]; rfl, by rw [HRR.out]; rfl, OwnRw.nil _ _ _, HB1.out.trans (hb9.mono HB1.out.size)⟩
    · have HRR := Lib.hid (HEO.out h0 h1)
      have HM := Lib.hid (HMM.out _ hB h0 h1)
      have HB1 := Lib.hid hB
      clear hB
      go_wp2_with (go_at_call 57; (with_reducible refine HM.out.mono ?_); rintro e9 w9 ⟨v9, N9, rfl, hp9, ho9, hb9⟩)
      go_ret2
      exact ⟨_, N9, by rw [HRR.out]; rfl, by rw [HRR.out]; exact hp9, ho9.mono HB1.out.size, HB1.out.trans (hb9.mono HB1.out.size)⟩
/-- What Within tells. -/
def mwithS (gs : List Grp) (A B : List Rp) : Bool := (mgeS gs A B).2 == 0 && decide ((mgeS gs A B).1 = B)
set_option maxRecDepth 100000 in
set_option maxHeartbeats 6400000 in
theorem mwithin_c {w : World} {x xa xb : Option Addr} {n1 cap ma capa mb capb : Nat} {gs : List Grp} {LA LB : List Rw} (hg : Grs w x n1 cap gs) (hs : ∀ g ∈ gs, g.1.length ≤ 9223372036854775807) (ha : RwsAt w xa ma capa LA) (hb : RwsAt w xb mb capb LB) (hsa : RShort LA) (hsb : RShort LB) (hm : ma + mb ≤ 1000000) :
    Calls Try.prog 36 #[.slice x n1 cap, .slice xa ma capa, .slice xb mb capb] w (Tells (.bool (mwithS gs (LA.map Rw.pr) (LB.map Rw.pr))) w) := by
  have HM := Lib.hid (mmerge_c hg hs ha hb hsa hsb hm)
  have HEQ := Lib.hid (fun W (h : Below w.heap.size w W) (a : Option Addr) (m ca : Nat) (N : List Rw) (hn : RwsAt W a m ca N) => eqrows_c hn (hb.below h))
  obtain ⟨R, hR⟩ : ∃ z, mwithS gs (LA.map Rw.pr) (LB.map Rw.pr) = z := ⟨_, rfl⟩
  rw [hR]
  unfold mwithS at hR
  obtain ⟨⟨M, E⟩, hRV⟩ : ∃ z, mgeS gs (LA.map Rw.pr) (LB.map Rw.pr) = z := ⟨_, rfl⟩
  rw [hRV] at hR HM
  have HR := Lib.hid hR
  clear hRV hR hg hs ha hb hsa hsb hm
  go_enter Try.func36, Try.ntmps36
  go_upto_region 2 with (go_at_call 32; (with_reducible refine HM.out.mono ?_); rintro e9 w9 hp9; obtain ⟨v9, rfl, hv9, hb9⟩ := hp9.st; obtain ⟨u9, rfl, a9, c9, N9, rfl, hr9, hp9⟩ := hv9)
  have HE9 := Lib.hid (HEQ.out _ hb9 _ _ _ _ hr9)
  have HP9 := Lib.hid hp9
  have HB9 := Lib.hid hb9
  clear hr9 hp9 hb9
  by_cases hz : E = 0
  · subst hz
    have HRR := Lib.hid (show decide (N9.map Rw.pr = LB.map Rw.pr) = R by rw [← HR.out, HP9.out]; rfl)
    go_wp2_with (go_at_call 65; (with_reducible refine HE9.out.mono ?_); rintro e9 w3 ⟨rfl, hb3⟩)
    go_ret
    exact ⟨by rw [← HRR.out]; rfl, HB9.out.trans (hb3.mono HB9.out.size)⟩
  · have HRR := Lib.hid (show R = false by
      rw [← HR.out, show (E == 0) = false from by rw [beq_eq_false_iff_ne]; exact hz]
      rfl)
    go_wp2
    go_ret
    exact ⟨by rw [HRR.out]; rfl, HB9.out⟩
end Go.Proofs.Ytidbjmkfmfojdaa
end

section
namespace Go.Proofs.Ytidbjmkfmfojdaa
open Go.RowKit Go Go.Sort
set_option linter.unusedVariables false
set_option maxRecDepth 20000

set_option maxRecDepth 100000 in
set_option maxHeartbeats 6400000 in
theorem rmerge_c {w : World} {x xa xb : Option Addr} {n1 cap ma capa mb capb : Nat} {gs : List Grp} {LA LB : List Rw} (hg : Grs w x n1 cap gs) (hs : ∀ g ∈ gs, g.1.length ≤ 9223372036854775807) (ha : RwsAt w xa ma capa LA) (hb : RwsAt w xb mb capb LB) (hsa : RShort LA) (hsb : RShort LB) (hm : ma + mb ≤ 1000000) :
    Calls Try.prog 33 #[.slice x n1 cap, .slice xa ma capa, .slice xb mb capb] w (fun e w' => ∃ v, e = .returned v ∧ StV (mgeS gs (LA.map Rw.pr) (LB.map Rw.pr)).1 (mgeS gs (LA.map Rw.pr) (LB.map Rw.pr)).2 v w' ∧ Below w.heap.size w w') := by
  have HGA := Lib.hid (rmgood_c hg hs ha hsa)
  have HGB := Lib.hid (fun W (h : Below w.heap.size w W) => rmgood_c (hg.below h) hs (hb.below h) hsb)
  have HMM := Lib.hid (fun W (h : Below w.heap.size w W) (h1 : mgoodS gs (LA.map Rw.pr) = 0) (h2 : mgoodS gs (LB.map Rw.pr) = 0) => by
    have i1 := mgood_iff.1 h1
    have i2 := mgood_iff.1 h2
    have hj := rjoined_c (hg.below h) hs ((ha.below h).ins (Nat.le_refl W.heap.size)) (Nat.le_refl _) (hb.below h) hm (fun r hr => i1.good r.pr (List.mem_map.2 ⟨r, hr, rfl⟩)) i1.asc (fun r hr => i2.good r.pr (List.mem_map.2 ⟨r, hr, rfl⟩))
    rw [joined_mrg strictT opC bareS i1.asc i2.asc i2.bare] at hj
    exact hj)
  have HEA := Lib.hid (fun (h : ¬ mgoodS gs (LA.map Rw.pr) = 0) => mge_a (B := LB.map Rw.pr) h)
  have HEB := Lib.hid (fun (h0 : mgoodS gs (LA.map Rw.pr) = 0) (h : ¬ mgoodS gs (LB.map Rw.pr) = 0) => mge_b (B := LB.map Rw.pr) h0 h)
  have HEO := Lib.hid (fun (h0 : mgoodS gs (LA.map Rw.pr) = 0) (h : mgoodS gs (LB.map Rw.pr) = 0) => mge_ok (B := LB.map Rw.pr) h0 h)
  obtain ⟨RV, hRV⟩ : ∃ z, mgeS gs (LA.map Rw.pr) (LB.map Rw.pr) = z := ⟨_, rfl⟩
  rw [hRV] at HEA HEB HEO ⊢
  obtain ⟨GA, hGA⟩ : ∃ z, mgoodS gs (LA.map Rw.pr) = z := ⟨_, rfl⟩
  obtain ⟨GB, hGB⟩ : ∃ z, mgoodS gs (LB.map Rw.pr) = z := ⟨_, rfl⟩
  rw [hGA] at HGA HEA HEB HEO
  rw [hGB] at HEB HEO
  simp only [hGA, hGB] at HMM
  simp only [hGB] at HGB
  clear hRV hGA hGB hg hs ha hb hsa hsb hm
  go_enter Try.func33, Try.ntmps33
  by_cases hz : GA = 0
  · have HZ := Lib.hid hz
    subst hz
    go_upto_region 4 with (go_at_call 35; (with_reducible refine HGA.out.mono ?_); rintro e9 w1 ⟨rfl, hb1⟩)
    have HG1 := Lib.hid (HGB.out _ hb1)
    have HB1 := Lib.hid hb1
    clear hb1
    by_cases hy : GB = 0
    · have HRR := Lib.hid (HEO.out (by first | rfl | trivial) hy)
      have HMM2 := Lib.hid (fun W h => HMM.out W h (by first | rfl | trivial) hy)
      subst hy
      go_upto_region 7 with (go_at_call 35; (with_reducible refine HG1.out.mono ?_); rintro e9 w2 ⟨rfl, hb2⟩)
      have hb12 := HB1.out.trans (hb2.mono HB1.out.size)
      have HM := Lib.hid (HMM2.out _ hb12)
      have HB2 := Lib.hid hb12
      clear hb2 hb12
      go_wp2_with (go_at_call 58; (with_reducible refine HM.out.mono ?_); rintro e9 w3 ⟨a3, m3, c3, N3, rfl, hp3, hr3, hb3⟩)
      have hnl : N3.length = m3 := hr3.1.len
      subst hnl
      go_ret2
      exact ⟨_, rfl, by rw [HRR.out]; exact ⟨_, rfl, a3, c3, N3, rfl, hr3.all, hp3⟩, HB2.out.trans (hb3.mono HB2.out.size)⟩
    · have HRR := Lib.hid (HEB.out (by first | rfl | trivial) hy)
      go_wp2_with (go_at_call 35; (with_reducible refine HG1.out.mono ?_); rintro e9 w2 ⟨rfl, hb2⟩)
      go_ret2
      exact ⟨_, rfl, by rw [HRR.out]; exact ⟨_, rfl, none, 0, [], rfl, ⟨Ls.nil _, fun j hj => by simp at hj⟩, rfl⟩, HB1.out.trans (hb2.mono HB1.out.size)⟩
  · have HRR := Lib.hid (HEA.out hz)
    go_wp2_with (go_at_call 35; (with_reducible refine HGA.out.mono ?_); rintro e9 w1 ⟨rfl, hb1⟩)
    go_ret2
    exact ⟨_, rfl, by rw [HRR.out]; exact ⟨_, rfl, none, 0, [], rfl, ⟨Ls.nil _, fun j hj => by simp at hj⟩, rfl⟩, hb1⟩
end Go.Proofs.Ytidbjmkfmfojdaa
end

section
namespace Go.Proofs.Ytidbjmkfmfojdaa
open Go.RowKit Go Go.Sort
set_option linter.unusedVariables false
set_option maxRecDepth 20000

set_option maxRecDepth 100000 in
set_option maxHeartbeats 6400000 in
theorem rrowsame2_c {w : World} {x x2 : Option Addr} {m cap m2 cap2 : Nat} {la lb : List Cl} (hl : Cls w x m cap la) (hl2 : Cls w x2 m2 cap2 lb) (k k2 : List UInt8) :
    Calls Try.prog 23 #[.agg #[.string (text k), .slice x m cap], .agg #[.string (text k2), .slice x2 m2 cap2]] w (Tells (.bool (k == k2 && decide (la = lb))) w) := by
  have hll := hl.len
  have hle := hl.le
  have hmax := hl.max
  have hll2 := hl2.len
  have hle2 := hl2.le
  have hmax2 := hl2.max
  have HL := Lib.hid hl
  have HL2 := Lib.hid hl2
  have HLN := Lib.hid (And.intro hll hll2)
  have hte := text_eqb k k2
  obtain ⟨u, hu⟩ : ∃ z, text k = z := ⟨_, rfl⟩
  obtain ⟨u', hu'⟩ : ∃ z, text k2 = z := ⟨_, rfl⟩
  obtain ⟨K, hK⟩ : ∃ z, (k == k2) = z := ⟨_, rfl⟩
  obtain ⟨R, hR⟩ : ∃ z, decide (la = lb) = z := ⟨_, rfl⟩
  rw [hu, hu', hK] at hte
  rw [hu, hu', hK, hR]
  have HRV := Lib.hid hR
  have hb := (alloc_below w (.cells #[.string u, .slice x m cap] 30)).alloc (by simp) (.cells #[.string u', .slice x2 m2 cap2] 30)
  have hr0 := heap_alloc_new w (.cells #[.string u, .slice x m cap] 30)
  have hr := heap_below hr0 (alloc_below (w.alloc (.cells #[.string u, .slice x m cap] 30)) (.cells #[.string u', .slice x2 m2 cap2] 30))
  have hr2 := heap_alloc_new (w.alloc (.cells #[.string u, .slice x m cap] 30)) (.cells #[.string u', .slice x2 m2 cap2] 30)
  rw [World.size_alloc] at hr2
  clear hl hl2 hu hu' hK hR hr0 hll hll2
  go_enter Try.func23, Try.ntmps23
  go_upto_region 1 with (fail)
  obtain ⟨B, hB⟩ : ∃ q, w.heap.size = q := ⟨_, rfl⟩
  rw [hB] at hr hr2 ⊢
  have HB1 := Lib.hid hb
  clear hB hb
  generalize (w.alloc (.cells #[.string u, .slice x m cap] 30)).alloc (.cells #[.string u', .slice x2 m2 cap2] 30) = W1 at *
  have HR1 := Lib.hid hr
  have HR2 := Lib.hid hr2
  obtain ⟨r0, r1, -⟩ := row_cells hr
  obtain ⟨s0, s1, -⟩ := row_cells hr2
  clear hr hr2
  cases K with
  | false =>
    go_wp2
    go_ret
    exact ⟨by simp, HB1.out⟩
  | true =>
    by_cases hm : m = m2
    · subst hm
      have hmi : (m != m) = false := by simp
      go_upto_region 4 with (fail)
      clear r0 r1 s0 s1
      go_loopw [5] (fun i wr => ∃ k : Nat, k ≤ m ∧ i = .int .i64 (k : Int) ∧ (∀ j, j < k → la.getD j Cl.zero = lb.getD j Cl.zero) ∧ Below w.heap.size w wr ∧ wr.heap[B]? = some (.cells #[.string u, .slice x m cap] 30 (0, 0)) ∧ wr.heap[B + 1]? = some (.cells #[.string u', .slice x2 m cap2] 30 (0, 0))) (fun i _ => m - (intOf i).toNat)
      case atStart => exact ⟨0, by omega, rfl, fun j hj => by omega, HB1.out, HR1.out, HR2.out⟩
      case round =>
        clear HB1 HR1 HR2
        obtain ⟨i, hk, rfl, hE, hB, hr, hr2⟩ := hrel
        obtain ⟨-, r1, -⟩ := row_cells hr
        have HE := Lib.hid hE
        have HB := Lib.hid hB
        have HR := Lib.hid hr
        have HR2 := Lib.hid hr2
        clear hE hB hr hr2
        by_cases hlt : i < m
        · have hki : (i : Int) < (m : Int) := by omega
          have hki1 : (i : Int) < (cap : Int) := by omega
          have hki2 : (i : Int) < (cap2 : Int) := by omega
          obtain ⟨bk, off, rfl, hat⟩ := HL.out.at hlt
          obtain ⟨bk2, off2, rfl, hat2⟩ := HL2.out.at hlt
          obtain ⟨xx, hx⟩ : ∃ y, la.getD i Cl.zero = y := ⟨_, rfl⟩
          obtain ⟨yy, hy⟩ : ∃ y, lb.getD i Cl.zero = y := ⟨_, rfl⟩
          rw [hx] at hat
          rw [hy] at hat2
          have HX := Lib.hid hx
          have HY := Lib.hid hy
          clear hx hy
          obtain ⟨n1, s1, a1, b1, g1, t1, d1, e1⟩ := xx
          obtain ⟨n2, s2, a2, b2, g2, t2, d2, e2⟩ := yy
          have hs := fun W => rsame_c n1 s1 a1 b1 g1 t1 d1 e1 n2 s2 a2 b2 g2 t2 d2 e2 W
          obtain ⟨C, hC⟩ : ∃ z, sameC ⟨n1, s1, a1, b1, g1, t1, d1, e1⟩ ⟨n2, s2, a2, b2, g2, t2, d2, e2⟩ = z := ⟨_, rfl⟩
          simp only [hC] at hs
          have HS := Lib.hid hs
          have HC := Lib.hid hC
          have HPW := Lib.hid (fun W (h : Below wr.heap.size wr W) => hat W (HB.out.trans (h.mono HB.out.size)))
          have HQW := Lib.hid (fun W (h : Below wr.heap.size wr W) => hat2 W (HB.out.trans (h.mono HB.out.size)))
          have HRB := Lib.hid (fun W (h : Below wr.heap.size wr W) => row_cells (heap_below HR.out h))
          have HRC := Lib.hid (fun W (h : Below wr.heap.size wr W) => row_cells (heap_below HR2.out h))
          clear hat hat2 hs hC
          go_upto_region 6 with (fail)
          clear r1
          refine wp_region_flow [none,none,none,none,none,none,none,none,none,none,none,none,none,none,none,none,none,none,none,none,none,none,none,none,none,none,none, some 0, some 1, some 2, some 3, some 4, some 5, some 6, some 7, some 8, some 9, some 10, some 11] (fun i => [u27, u28, u29, u30, u31, u32, u33, u34, u35, u36, u37, u38].getD i undef) [(fun v _ => v = .pointer (some ⟨B, 1, none⟩)), (fun v _ => v = .slice (some ⟨bk, off, none⟩) m cap), (fun v _ => v = .int .i64 (i : Int)), (fun v _ => v = .pointer (some ⟨bk, off + i * 8, none⟩)), (fun v _ => v = .agg #[.int .i64 n1, .int .i64 s1, .int .i64 a1, .int .i64 b1, .bool g1, .string (text t1), .int .i64 d1, .int .i64 e1]), (fun v _ => v = .pointer (some ⟨B + 1, 1, none⟩)), (fun v _ => v = .slice (some ⟨bk2, off2, none⟩) m cap2), (fun v _ => v = .int .i64 (i : Int)), (fun v _ => v = .pointer (some ⟨bk2, off2 + i * 8, none⟩)), (fun v _ => v = .agg #[.int .i64 n2, .int .i64 s2, .int .i64 a2, .int .i64 b2, .bool g2, .string (text t2), .int .i64 d2, .int .i64 e2]), (fun v _ => v = .bool C), (fun v _ => v = .bool (!C))] (by kernel_rfl) (by kernel_rfl) rfl rfl rfl ?_ ?_ ?_
          · intro g hg v X Y hX hY hv
            simp only [List.mem_cons, List.not_mem_nil, or_false] at hg
            rcases hg with rfl | rfl | rfl | rfl | rfl | rfl | rfl | rfl | rfl | rfl | rfl | rfl
            all_goals first
              | exact hv
              | exact hv.kept hY
          · simp only [flowOps, and_true]
            refine ⟨?_,?_,?_,?_,?_,?_,?_,?_,?_,?_,?_,?_⟩
            · intro xs W hW hn
              simp only [flowAct, zwc, zwn]
              go_wp2_with (fail)
              exact ⟨rfl, _, rfl, Below.refl _ _, rfl⟩
            · intro xs W hW hn
              obtain ⟨-, r1, -⟩ := HRB.out W hW
              simp [flowNeeds, Region.binds] at hn
              simp only [flowAct, zwc, zwn]
              try simp only [hn]
              go_wp2_with (fail)
              exact ⟨rfl, _, rfl, Below.refl _ _, rfl⟩
            · intro xs W hW hn
              simp only [flowAct, zwc, zwn]
              go_wp2_with (fail)
              exact ⟨rfl, _, rfl, Below.refl _ _, rfl⟩
            · intro xs W hW hn
              simp [flowNeeds, Region.binds] at hn
              simp only [flowAct, zwc, zwn]
              try simp only [hn]
              go_wp2_with (fail)
              exact ⟨rfl, _, rfl, Below.refl _ _, rfl⟩
            · intro xs W hW hn
              obtain ⟨p0, p1, p2, p3, p4, p5, p6, p7⟩ := HPW.out W hW
              simp [flowNeeds, Region.binds] at hn
              simp only [flowAct, zwc, zwn]
              try simp only [hn]
              go_wp2_with (fail)
              exact ⟨rfl, _, rfl, Below.refl _ _, rfl⟩
            · intro xs W hW hn
              simp only [flowAct, zwc, zwn]
              go_wp2_with (fail)
              exact ⟨rfl, _, rfl, Below.refl _ _, rfl⟩
            · intro xs W hW hn
              obtain ⟨-, r2, -⟩ := HRC.out W hW
              simp [flowNeeds, Region.binds] at hn
              simp only [flowAct, zwc, zwn]
              try simp only [hn]
              go_wp2_with (fail)
              exact ⟨rfl, _, rfl, Below.refl _ _, rfl⟩
            · intro xs W hW hn
              simp only [flowAct, zwc, zwn]
              go_wp2_with (fail)
              exact ⟨rfl, _, rfl, Below.refl _ _, rfl⟩
            · intro xs W hW hn
              simp [flowNeeds, Region.binds] at hn
              simp only [flowAct, zwc, zwn]
              try simp only [hn]
              go_wp2_with (fail)
              exact ⟨rfl, _, rfl, Below.refl _ _, rfl⟩
            · intro xs W hW hn
              obtain ⟨q0, q1, q2, q3, q4, q5, q6, q7⟩ := HQW.out W hW
              simp [flowNeeds, Region.binds] at hn
              simp only [flowAct, zwc, zwn]
              try simp only [hn]
              go_wp2_with (fail)
              exact ⟨rfl, _, rfl, Below.refl _ _, rfl⟩
            · intro xs W hW hn
              simp [flowNeeds, Region.binds] at hn
              simp only [flowAct, zwc, zwn]
              simp only [hn]
              go_wp2_with (go_at_call 53; (with_reducible refine (HS.out _).mono ?_); rintro e9 w9 ⟨rfl, hb9⟩)
              exact ⟨rfl, _, rfl, hb9, rfl⟩
            · intro xs W hW hn
              simp [flowNeeds, Region.binds] at hn
              simp only [flowAct, zwc, zwn]
              try simp only [hn]
              go_wp2_with (fail)
              exact ⟨rfl, _, rfl, Below.refl _ _, rfl⟩
          · intro xs W hW hall
            simp only [flowAll, and_true, Nat.zero_add, Nat.reduceAdd] at hall
            obtain ⟨-,-,-,-,-,-,-,-,-,-,-, e11⟩ := hall
            simp only [flowAct, zwc, zwn]
            simp only [e11]
            have HB5 := Lib.hid (HB.out.trans (hW.mono HB.out.size))
            have HR5 := Lib.hid (heap_below HR.out hW)
            have HR6 := Lib.hid (heap_below HR2.out hW)
            clear hW e11 HPW HQW HRB HRC HS HB HR HR2
            cases C with
            | true =>
              have HCT := Lib.hid ((same_iff _ _).1 HC.out)
              go_wp2
              go_roundw
              case rel =>
                refine ⟨i + 1, by omega, by go_num, fun j hj => ?_, HB5.out, HR5.out, HR6.out⟩
                by_cases e : j = i
                · subst e; rw [HX.out, HY.out]; exact HCT.out
                · exact HE.out j (by omega)
              case measure => simp [intOf]; omega
            | false =>
              have HNE := Lib.hid (show ¬ la = lb from fun e => by
                subst e
                have h1 := HC.out
                rw [HX.out] at HY
                have h2 := HY.out
                rw [h2, (same_iff _ _).2 rfl] at h1
                cases h1)
              have HD := Lib.hid (show R = false by rw [← HRV.out]; exact decide_eq_false HNE.out)
              go_wp2
              go_ret
              exact ⟨by rw [HD.out]; rfl, HB5.out⟩
        · obtain rfl : i = m := by omega
          have HD := Lib.hid (show R = true by rw [← HRV.out]; exact decide_eq_true (list_ext_getD (z := Cl.zero) (by rw [HLN.out.1, HLN.out.2]) (by rw [HLN.out.1]; exact HE.out)))
          go_wp2
          go_ret
          exact ⟨by rw [HD.out]; rfl, HB.out⟩
    · have hmi : ¬ (m : Int) = (m2 : Int) := by omega
      have hmb : ((m : Int) == (m2 : Int)) = false := by rw [beq_eq_false_iff_ne]; exact hmi
      have HD := Lib.hid (show R = false by rw [← HRV.out]; exact decide_eq_false fun e => hm (by rw [← HLN.out.1, ← HLN.out.2, e]))
      go_wp2
      go_ret
      exact ⟨by rw [HD.out]; rfl, HB1.out⟩
end Go.Proofs.Ytidbjmkfmfojdaa
end

section
namespace Go.Proofs.Ytidbjmkfmfojdaa
open Go.RowKit Go Go.Sort
set_option linter.unusedVariables false
set_option maxRecDepth 20000

set_option maxRecDepth 100000 in
set_option maxHeartbeats 6400000 in
theorem rall2_c {w : World} {a b : Option Addr} {m ca m2 cb : Nat} {LA LB : List Rw} (ha : RwsAt w a m ca LA) (hb : RwsAt w b m2 cb LB) :
    Calls Try.prog 24 #[.slice a m ca, .slice b m2 cb] w (Tells (.bool (decide (LA.map Rw.pr = LB.map Rw.pr))) w) := by
  have hal := ha.1.len
  have hale := ha.1.le
  have hamx := ha.1.max
  have hbl := hb.1.len
  have hble := hb.1.le
  have hbmx := hb.1.max
  by_cases hm : m = m2
  · subst hm
    have HCA := Lib.hid ha
    have HCB := Lib.hid hb
    have HAL := Lib.hid hal
    have HBL := Lib.hid hbl
    clear ha hb hal hbl
    have hmi : (m != m) = false := by simp
    obtain ⟨R, hR⟩ : ∃ z, decide (LA.map Rw.pr = LB.map Rw.pr) = z := ⟨_, rfl⟩
    rw [hR]
    have HR := Lib.hid hR
    clear hR
    go_enter Try.func24, Try.ntmps24
    go_upto_region 4 with (fail)
    go_loopw [5] (fun i wr => ∃ k : Nat, k ≤ m ∧ i = .int .i64 (k : Int) ∧ (∀ j, j < k → (LA.getD j Rw.zero).pr = (LB.getD j Rw.zero).pr) ∧ Below w.heap.size w wr) (fun i _ => m - (intOf i).toNat)
    case atStart => exact ⟨0, by omega, rfl, fun j hj => by omega, Below.refl _ _⟩
    case round =>
      obtain ⟨k, hk, rfl, he, hB⟩ := hrel
      have HE := Lib.hid he
      have HB := Lib.hid hB
      clear he hB
      by_cases hkm : k < m
      · have hki : (k : Int) < (m : Int) := by omega
        have hkc : (k : Int) < (ca : Int) := by omega
        have hkc2 : (k : Int) < (cb : Int) := by omega
        obtain ⟨ba, offa, aa, na, cca, rfl, hua, hna, hca, hata⟩ := HCA.out.place hkm
        obtain ⟨bb, offb, ab, nb, ccb, rfl, hub, hnb, hcb, hatb⟩ := HCB.out.place hkm
        obtain ⟨x, hx⟩ : ∃ x, LA.getD k Rw.zero = x := ⟨_, rfl⟩
        obtain ⟨y, hy⟩ : ∃ y, LB.getD k Rw.zero = y := ⟨_, rfl⟩
        rw [hx] at hata hca hna
        rw [hy] at hatb hcb hnb
        obtain ⟨kx, ux, csx⟩ := x
        obtain ⟨ky, uy, csy⟩ := y
        simp only at hata hca hna hatb hcb hnb
        have HX := Lib.hid hx
        have HY := Lib.hid hy
        have HPW := Lib.hid (fun W (h : Below wr.heap.size wr W) => hata W (HB.out.trans (h.mono HB.out.size)))
        have HQW := Lib.hid (fun W (h : Below wr.heap.size wr W) => hatb W (HB.out.trans (h.mono HB.out.size)))
        have hsm := fun W (h : Below wr.heap.size wr W) => rrowsame2_c (hca.below (HB.out.trans (h.mono HB.out.size))) (hcb.below (HB.out.trans (h.mono HB.out.size))) kx ky
        obtain ⟨C, hC⟩ : ∃ z, (kx == ky && decide (csx = csy)) = z := ⟨_, rfl⟩
        rw [hC] at hsm
        have HSM := Lib.hid hsm
        have HC := Lib.hid hC
        clear hua hub hna hnb hca hcb hata hatb hx hy hC hsm
        go_upto_region 6 with (fail)
        refine wp_region_flow [none,none,none,none,none,none,none,none,none,none,none,none,none,none,none,none,none, some 0, some 1, some 2, some 3, some 4, some 5, some 6, some 7, some 8, some 9] (fun i => [u17, u18, u19, u20, u21, u22, u23, u24, u25, u26].getD i undef) [(fun v _ => v = .slice (some ⟨ba, offa, none⟩) m ca), (fun v _ => v = .int .i64 (k : Int)), (fun v _ => v = .pointer (some ⟨ba, offa + k * 2, none⟩)), (fun v _ => v = .agg #[.string (text kx), .slice aa na cca]), (fun v _ => v = .slice (some ⟨bb, offb, none⟩) m cb), (fun v _ => v = .int .i64 (k : Int)), (fun v _ => v = .pointer (some ⟨bb, offb + k * 2, none⟩)), (fun v _ => v = .agg #[.string (text ky), .slice ab nb ccb]), (fun v _ => v = .bool C), (fun v _ => v = .bool (!C))] (by kernel_rfl) (by kernel_rfl) rfl rfl rfl ?_ ?_ ?_
        · intro g hg v X Y hX hY hv
          simp only [List.mem_cons, List.not_mem_nil, or_false] at hg
          rcases hg with rfl | rfl | rfl | rfl | rfl | rfl | rfl | rfl | rfl | rfl
          all_goals first
            | exact hv
            | exact hv.kept hY
        · simp only [flowOps, and_true]
          refine ⟨?_,?_,?_,?_,?_,?_,?_,?_,?_,?_⟩
          · intro xs W hW hn
            simp only [flowAct, zwc, zwn]
            go_wp2_with (fail)
            exact ⟨rfl, _, rfl, Below.refl _ _, rfl⟩
          · intro xs W hW hn
            simp only [flowAct, zwc, zwn]
            go_wp2_with (fail)
            exact ⟨rfl, _, rfl, Below.refl _ _, rfl⟩
          · intro xs W hW hn
            simp [flowNeeds, Region.binds] at hn
            simp only [flowAct, zwc, zwn]
            try simp only [hn]
            go_wp2_with (fail)
            exact ⟨rfl, _, rfl, Below.refl _ _, rfl⟩
          · intro xs W hW hn
            obtain ⟨p0, p1⟩ := HPW.out W hW
            simp [flowNeeds, Region.binds] at hn
            simp only [flowAct, zwc, zwn]
            try simp only [hn]
            go_wp2_with (fail)
            exact ⟨rfl, _, rfl, Below.refl _ _, rfl⟩
          · intro xs W hW hn
            simp only [flowAct, zwc, zwn]
            go_wp2_with (fail)
            exact ⟨rfl, _, rfl, Below.refl _ _, rfl⟩
          · intro xs W hW hn
            simp only [flowAct, zwc, zwn]
            go_wp2_with (fail)
            exact ⟨rfl, _, rfl, Below.refl _ _, rfl⟩
          · intro xs W hW hn
            simp [flowNeeds, Region.binds] at hn
            simp only [flowAct, zwc, zwn]
            try simp only [hn]
            go_wp2_with (fail)
            exact ⟨rfl, _, rfl, Below.refl _ _, rfl⟩
          · intro xs W hW hn
            obtain ⟨q0, q1⟩ := HQW.out W hW
            simp [flowNeeds, Region.binds] at hn
            simp only [flowAct, zwc, zwn]
            try simp only [hn]
            go_wp2_with (fail)
            exact ⟨rfl, _, rfl, Below.refl _ _, rfl⟩
          · intro xs W hW hn
            simp [flowNeeds, Region.binds] at hn
            simp only [flowAct, zwc, zwn]
            simp only [hn]
            go_wp2_with (go_at_call 23; (with_reducible refine (HSM.out W hW).mono ?_); rintro e9 w9 ⟨rfl, hb9⟩)
            exact ⟨rfl, _, rfl, hb9, rfl⟩
          · intro xs W hW hn
            simp [flowNeeds, Region.binds] at hn
            simp only [flowAct, zwc, zwn]
            try simp only [hn]
            go_wp2_with (fail)
            exact ⟨rfl, _, rfl, Below.refl _ _, rfl⟩
        · intro xs W hW hall
          simp only [flowAll, and_true, Nat.zero_add, Nat.reduceAdd] at hall
          obtain ⟨-,-,-,-,-,-,-,-,-, e9⟩ := hall
          simp only [flowAct, zwc, zwn]
          simp only [e9]
          have HB5 := Lib.hid (HB.out.trans (hW.mono HB.out.size))
          clear hW e9 HPW HQW HSM HB
          cases C with
          | true =>
            have HCC := Lib.hid (show (⟨kx, ux, csx⟩ : Rw).pr = (⟨ky, uy, csy⟩ : Rw).pr by
              have h := HC.out
              rw [Bool.and_eq_true, beq_iff_eq, decide_eq_true_eq] at h
              show (kx, csx) = (ky, csy)
              rw [h.1, h.2])
            go_wp2
            go_roundw
            case rel =>
              refine ⟨k + 1, by omega, by go_num, fun j hj => ?_, HB5.out⟩
              by_cases e : j = k
              · subst e; rw [HX.out, HY.out]; exact HCC.out
              · exact HE.out j (by omega)
            case measure => simp [intOf]; omega
          | false =>
            have HD := Lib.hid (show R = false by
              rw [← HR.out]
              refine decide_eq_false fun e => ?_
              have h1 := prs_getD (L := LA) (j := k) (by rw [HAL.out]; exact hkm)
              rw [e, prs_getD (by rw [HBL.out]; exact hkm), HX.out, HY.out] at h1
              have h2 : ky = kx ∧ csy = csx := by injection h1 with h1 h2; exact ⟨h1, h2⟩
              have h := HC.out
              rw [h2.1, h2.2] at h
              simp at h)
            go_wp2
            go_ret
            exact ⟨by rw [HD.out]; rfl, HB5.out⟩
      · obtain rfl : k = m := by omega
        have HD := Lib.hid (show R = true by
          rw [← HR.out]
          refine decide_eq_true (list_ext_getD (z := ([], [])) (by rw [List.length_map, List.length_map, HAL.out, HBL.out]) fun j hj => ?_)
          rw [List.length_map] at hj
          rw [prs_getD hj, prs_getD (by rw [HBL.out, ← HAL.out]; exact hj)]
          exact HE.out j (by rw [← HAL.out]; exact hj))
        go_wp2
        go_ret
        exact ⟨by rw [HD.out]; rfl, HB.out⟩
  · have hmi : ¬ (m : Int) = (m2 : Int) := by omega
    have hmb : ((m : Int) == (m2 : Int)) = false := by rw [beq_eq_false_iff_ne]; exact hmi
    have HD := Lib.hid (show decide (LA.map Rw.pr = LB.map Rw.pr) = false from decide_eq_false fun e => hm (by have := congrArg List.length e; rw [List.length_map, List.length_map] at this; omega))
    clear ha hb hal hbl
    go_enter Try.func24, Try.ntmps24
    go_wp2
    go_ret
    exact ⟨by rw [HD.out]; rfl, Below.refl _ _⟩
set_option maxRecDepth 100000 in
set_option maxHeartbeats 6400000 in
theorem rwithin_c {w : World} {x xa xb : Option Addr} {n1 cap ma capa mb capb : Nat} {gs : List Grp} {LA LB : List Rw} (hg : Grs w x n1 cap gs) (hs : ∀ g ∈ gs, g.1.length ≤ 9223372036854775807) (ha : RwsAt w xa ma capa LA) (hb : RwsAt w xb mb capb LB) (hsa : RShort LA) (hsb : RShort LB) (hm : ma + mb ≤ 1000000) :
    Calls Try.prog 37 #[.slice x n1 cap, .slice xa ma capa, .slice xb mb capb] w (Tells (.bool (mwithS gs (LA.map Rw.pr) (LB.map Rw.pr))) w) := by
  have HM := Lib.hid (rmerge_c hg hs ha hb hsa hsb hm)
  have HEQ := Lib.hid (fun W (h : Below w.heap.size w W) (a : Option Addr) (m ca : Nat) (N : List Rw) (hn : RwsAt W a m ca N) => rall2_c hn (hb.below h))
  obtain ⟨R, hR⟩ : ∃ z, mwithS gs (LA.map Rw.pr) (LB.map Rw.pr) = z := ⟨_, rfl⟩
  rw [hR]
  unfold mwithS at hR
  obtain ⟨⟨M, E⟩, hRV⟩ : ∃ z, mgeS gs (LA.map Rw.pr) (LB.map Rw.pr) = z := ⟨_, rfl⟩
  rw [hRV] at hR HM
  have HR := Lib.hid hR
  clear hRV hR hg hs ha hb hsa hsb hm
  go_enter Try.func37, Try.ntmps37
  go_upto_region 2 with (go_at_call 33; (with_reducible refine HM.out.mono ?_); rintro e9 w9 ⟨v9, rfl, hv9, hb9⟩; obtain ⟨u9, rfl, a9, c9, N9, rfl, hr9, hp9⟩ := hv9)
  have HE9 := Lib.hid (HEQ.out _ hb9 _ _ _ _ hr9)
  have HP9 := Lib.hid hp9
  have HB9 := Lib.hid hb9
  clear hr9 hp9 hb9
  by_cases hz : E = 0
  · subst hz
    have HRR := Lib.hid (show decide (N9.map Rw.pr = LB.map Rw.pr) = R by rw [← HR.out, HP9.out]; rfl)
    go_wp2_with (go_at_call 24; (with_reducible refine HE9.out.mono ?_); rintro e9 w3 ⟨rfl, hb3⟩)
    go_ret
    exact ⟨by rw [← HRR.out]; rfl, HB9.out.trans (hb3.mono HB9.out.size)⟩
  · have HRR := Lib.hid (show R = false by
      rw [← HR.out, show (E == 0) = false from by rw [beq_eq_false_iff_ne]; exact hz]
      rfl)
    go_wp2
    go_ret
    exact ⟨by rw [HRR.out]; rfl, HB9.out⟩
end Go.Proofs.Ytidbjmkfmfojdaa
end

section
namespace Go.Proofs.Ytidbjmkfmfojdaa
open Go.RowKit Go Go.Sort
set_option linter.unusedVariables false
set_option maxRecDepth 20000

set_option maxRecDepth 100000 in
set_option maxHeartbeats 6400000 in
theorem lrows_c {w : World} {x : Option Addr} {m cap : Nat} {L : List Rw} (hl : RwsAt w x m cap L) (hm : m ≤ 1000000) (hn : ∀ r ∈ L, r.cs.length ≤ 1000000) :
    Calls Try.prog 31 #[.slice x m cap] w (SetPost (L.map Rw.pr) w.heap.size w) := by
  have hll := hl.1.len
  have hle := hl.1.le
  have hmax := hl.1.max
  have HL := Lib.hid hl
  have HN := Lib.hid (fun q (hq : q < m) => hn _ (rw_mem (L := L) (k := q) (by omega)))
  have HT := Lib.hid (show L.map Rw.pr = (L.take m).map Rw.pr by rw [← hll, List.take_length])
  have HTS := Lib.hid (fun q (hq : q < m) => (show (L.take (q + 1)).map Rw.pr = (L.take q).map Rw.pr ++ [(L.getD q Rw.zero).pr] by
    rw [List.take_add_one, List.getElem?_eq_getElem (by omega), List.getD_eq_getElem?_getD, List.getElem?_eq_getElem (by omega), List.map_append]; rfl))
  clear hl hn hll
  go_enter Try.func31, Try.ntmps31
  go_wp2
  go_loopw [3, 8] (fun o j wr => ∃ (q : Nat) (v : Value) (NN : List Rw), q ≤ m ∧ j = .int .i64 (q : Int) ∧ o = v ∧ NN.map Rw.pr = (L.take q).map Rw.pr ∧ NN.length = q ∧ OwnS wr w.heap.size w.heap.size v NN ∧ Below w.heap.size w wr) (fun _ j _ => m - (intOf j).toNat)
  case atStart => exact ⟨0, .slice none 0 0, [], by omega, rfl, rfl, rfl, rfl, OwnS.nil _ (Nat.le_refl _), Below.refl _ _⟩
  case round =>
    obtain ⟨q, v, NN, hq, rfl, rfl, hpr, hnl, ho, hbx⟩ := hrel
    obtain ⟨an, cn, ev, -⟩ := ho.ins
    rw [hnl] at ev
    subst ev
    have HPR := Lib.hid hpr
    have HNL := Lib.hid hnl
    have HO := Lib.hid ho
    have HBx := Lib.hid hbx
    clear hpr hnl ho hbx
    by_cases hlq : q < m
    · have hqi : (q : Int) < (m : Int) := by omega
      have hqc : (q : Int) < (cap : Int) := by omega
      obtain ⟨bo, offo, ao, no, co, rfl, eu, eno, hco, hat⟩ := HL.out.place hlq
      have hnn := HN.out q hlq
      have hts := HTS.out q hlq
      obtain ⟨y, hy⟩ : ∃ y, L.getD q Rw.zero = y := ⟨_, rfl⟩
      rw [hy] at hat eu eno hco hnn hts
      obtain ⟨ko, uo, cso⟩ := y
      simp only at hat eu eno hco hnn
      have hno : no ≤ 1000000 := by omega
      obtain ⟨to, hto⟩ : ∃ z, text ko = z := ⟨_, rfl⟩
      rw [hto] at hat
      have HTO := Lib.hid hto
      have HTSQ := Lib.hid hts
      obtain ⟨o0, o1⟩ := hat _ HBx.out
      have HCL := Lib.hid (fun W (h : Below w.heap.size w W) => rcopy_c (hco.below h) hno to)
      clear hat hy hto hco hnn hts eno eu hno
      go_upto_region 5 with (fail)
      have hal := alloc_below wr (.cells #[.string to, .slice ao no co] 30)
      have hnew := heap_alloc_new wr (.cells #[.string to, .slice ao no co] 30)
      have HBy := Lib.hid (HBx.out.trans (hal.mono HBx.out.size))
      have HOy := Lib.hid (HO.out.kept hal)
      obtain ⟨g, hg⟩ : ∃ z, wr.heap.size = z := ⟨_, rfl⟩
      rw [hg] at hnew ⊢
      generalize wr.alloc (.cells #[.string to, .slice ao no co] 30) = W2 at *
      obtain ⟨r0, r1, -⟩ := row_cells hnew
      clear hal hnew o0 o1 hg HO HBx
      go_wp2_with (first
        | (go_at_call 45; (with_reducible refine (HCL.out _ HBy.out).mono ?_); rintro e9 w9 ⟨vc, rfl, hoc, hb9⟩
           have hnk9 := HOy.out.kept hb9
           have hbk9 := HBy.out.trans (hb9.mono HBy.out.size)
           have hri := RowIn.own (B := w.heap.size) (k := ko) hoc
           obtain ⟨ac, cc, rfl, -⟩ := hoc.cls
           have HRI := Lib.hid hri
           have HN9 := Lib.hid hnk9
           have HB9 := Lib.hid hbk9
           have HBS9 := Lib.hid hbk9.size
           clear hri hnk9 hbk9 hoc hb9 r0 r1)
        | (at_builtin; refine wpList_append_rwt rfl _ _ rfl (u := .slice an q cn) rfl HN9.out.row to HTO.out ac cso.length cc cso rfl (by have := HNL.out; omega) HBS9.out ?_; intro v' w' ho' hg'
           have hbk := (HB9.out.alloc HB9.out.size (.cells #[.string to, .slice ac cso.length cc] 30)).grown hg' (by have := HB9.out.size; simp; omega) (fun z e => (HN9.out.lt z e).1)
           have hnk := HN9.out.push (r := ⟨ko, .slice ac cso.length cc, cso⟩) HRI.out _ ho' hg'
           have HBK := Lib.hid hbk
           have HNK := Lib.hid hnk
           clear hbk hnk ho' hg'))
      go_roundw
      case rel => exact ⟨q + 1, _, _, by omega, by go_num, rfl, by rw [HTSQ.out, List.map_append, HPR.out]; rfl, by rw [List.length_append, HNL.out]; rfl, HNK.out, HBK.out⟩
      case measure => simp [intOf]; omega
    · obtain rfl : m = q := by omega
      go_wp2
      go_ret
      exact ⟨_, NN, rfl, by rw [HT.out]; exact HPR.out, HO.out, HBx.out⟩
end Go.Proofs.Ytidbjmkfmfojdaa
end

section
namespace Go.Proofs.Ytidbjmkfmfojdaa
open Go.RowKit Go Go.Sort
set_option linter.unusedVariables false
set_option maxRecDepth 20000

theorem text_add (x y : List UInt8) (h : x.length + y.length ≤ 10000000) (W : World) : (Op.stringOp .add (text x) (text y)).run Try.prog W = .ok (.string (text (x ++ y))) W := by
  rw [run_string_add_sum W _ _ (by rw [text_size, text_size]; omega)]
  have : text x ++ text y = text (x ++ y) := by
    apply ByteArray.ext
    rw [ByteArray.data_append]
    simp [text]
  rw [this]
theorem rshort_pr {L M : List Rw} (h : M.map Rw.pr = L.map Rw.pr) (hL : RShort L) : RShort M := by
  intro r hr
  have hm : r.pr ∈ L.map Rw.pr := by rw [← h]; exact List.mem_map.2 ⟨r, hr, rfl⟩
  obtain ⟨q, hq, e⟩ := List.mem_map.1 hm
  have := hL q hq
  simp only [Rw.pr, Prod.mk.injEq] at e
  rw [← e.1, ← e.2]
  exact this
/-- Another value put into a cell of the call's own. -/
theorem own_putT {W : World} {B g m c k : Nat} {cs : List Cl} (h : OwnC W B (.slice (some ⟨g, 0, none⟩) m c) cs) (hk : k < cs.length) (t : List UInt8) :
    OwnC (W.setCell ⟨g, k * 8 + 5, none⟩ (.string (text t))) B (.slice (some ⟨g, 0, none⟩) m c) (cs.set k { cs.getD k Cl.zero with t := t }) := by
  obtain ⟨hlen, ⟨ev, -⟩ | ⟨g', cap, cur, ev, hB, hg, hnc, hcm, hcs, htake⟩⟩ := h
  · cases ev
  · injection ev with e1 e2 e3
    injection e1 with e1
    injection e1 with e1
    subst e1 e2 e3
    have h0 := heap_setCell_same W g (k * 8 + 5) _ _ (.string (text t)) hg
    have hl2 : (cs.set k ({ cs.getD k Cl.zero with t := t } : Cl)).length = cs.length := List.length_set
    refine ⟨by rw [cCells_length], .inr ⟨g, c, _, by rw [hl2], hB, h0, by rw [hl2]; exact hnc, hcm, by simpa using hcs, ?_⟩⟩
    rw [hl2]
    apply List.ext_getElem?
    intro j
    have hcl := cCells_length cs
    have hcl2 := cCells_length (cs.set k { cs.getD k Cl.zero with t := t })
    rw [hl2] at hcl2
    rw [List.getElem?_take]
    by_cases hj : j < cs.length * 8
    · rw [if_pos hj]
      have hc := take_cell htake hj
      have hsz : cs.length * 8 ≤ cur.size := by
        have h9 := congrArg List.length htake
        rw [List.length_take, hcl] at h9
        simp at h9
        omega
      simp only [Array.getElem?_toList, Array.getElem?_setIfInBounds]
      have hd : j / 8 < cs.length := by omega
      have hm : j % 8 < 8 := Nat.mod_lt _ (by omega)
      have e8 : j / 8 * 8 + j % 8 = j := by omega
      have g1 := cCells_get cs (j / 8) (j % 8) hd hm
      have g2 := cCells_get (cs.set k { cs.getD k Cl.zero with t := t }) (j / 8) (j % 8) (by rw [hl2]; exact hd) hm
      rw [e8] at g1 g2
      rw [g2, hc, g1]
      obtain ⟨r, hr⟩ : ∃ r, j % 8 = r := ⟨_, rfl⟩
      rw [hr] at hm e8 ⊢
      by_cases hq : j / 8 = k
      · rw [hq] at e8 ⊢
        have e9 : (cs.set k ({ cs.getD k Cl.zero with t := t } : Cl)).getD k Cl.zero = { cs.getD k Cl.zero with t := t } := by simp [hk]
        rw [e9]
        subst e8
        rcases (by omega : r = 0 ∨ r = 1 ∨ r = 2 ∨ r = 3 ∨ r = 4 ∨ r = 5 ∨ r = 6 ∨ r = 7) with rfl | rfl | rfl | rfl | rfl | rfl | rfl | rfl
        all_goals
          first
            | (rw [if_pos (by omega), if_pos (by omega)]; rfl)
            | (rw [if_neg (by omega)]; rfl)
      · have e9 : (cs.set k ({ cs.getD k Cl.zero with t := t } : Cl)).getD (j / 8) Cl.zero = cs.getD (j / 8) Cl.zero := by
          simp only [List.getD_eq_getElem?_getD, List.getElem?_set]
          rw [if_neg (fun e => hq e.symm)]
        rw [e9]
        rw [if_neg (by omega)]
    · rw [if_neg hj, List.getElem?_eq_none (by omega)]
/-- How long the values of rows are at most. -/
def TBd (N : List Rw) (q : Nat) : Prop := ∀ j, j < N.length → ∀ k, k < (N.getD j Rw.zero).cs.length → ((N.getD j Rw.zero).cs.getD k Cl.zero).t.length ≤ q
theorem TBd.mono {N : List Rw} {q q' : Nat} (h : TBd N q) (hq : q ≤ q') : TBd N q' := fun j hj k hk => Nat.le_trans (h j hj k hk) hq
theorem TBd.set {N : List Rw} {q j k : Nat} {t : List UInt8} (h : TBd N q) (hj : j < N.length) (hk : k < (N.getD j Rw.zero).cs.length) (ht : t.length ≤ q + 1) :
    TBd (N.set j ⟨(N.getD j Rw.zero).k, (N.getD j Rw.zero).u, (N.getD j Rw.zero).cs.set k { (N.getD j Rw.zero).cs.getD k Cl.zero with t := t }⟩) (q + 1) := by
  intro i hi l hl
  rw [List.length_set] at hi
  rw [getD_set hi] at hl ⊢
  by_cases e : j = i
  · subst e
    rw [if_pos rfl] at hl ⊢
    simp only [List.length_set] at hl
    show (((N.getD j Rw.zero).cs.set k _).getD l Cl.zero).t.length ≤ q + 1
    rw [set_getD]
    split
    · exact ht
    · exact Nat.le_succ_of_le (h j hi l hl)
  · rw [if_neg e] at hl ⊢
    exact Nat.le_succ_of_le (h i hi l hl)
theorem tbd_st {gs : List Grp} {N : List Rw} {R : List Rp} (h : IsSt gs R) (hp : N.map Rw.pr = R) : TBd N 64 := by
  intro j hj k hk
  have hm : (N.getD j Rw.zero).pr ∈ R := by rw [← hp]; exact List.mem_map.2 ⟨_, rw_mem hj, rfl⟩
  obtain ⟨-,-,-,-, h5⟩ := rgood_short (h.good _ hm)
  refine h5 _ ?_
  have e : (N.getD j Rw.zero).cs.getD k Cl.zero = (N.getD j Rw.zero).cs[k] := by
    rw [List.getD_eq_getElem?_getD (l := (N.getD j Rw.zero).cs), List.getElem?_eq_getElem hk]; rfl
  rw [e]
  exact List.getElem_mem hk
theorem mge_st {gs : List Grp} {A B : List Rp} : (mgeS gs A B).1 = [] ∨ IsSt gs (mgeS gs A B).1 := by
  by_cases ha : mgoodS gs A = 0
  · by_cases hb : mgoodS gs B = 0
    · rw [mge_ok ha hb]; exact .inr (mrg_st (mgood_iff.1 ha) (mgood_iff.1 hb))
    · rw [mge_b ha hb]; exact .inl rfl
  · rw [mge_a ha]; exact .inl rfl
theorem mge_few {gs : List Grp} {A B : List Rp} : (mgeS gs A B).1.length ≤ A.length + B.length := by
  by_cases ha : mgoodS gs A = 0
  · by_cases hb : mgoodS gs B = 0
    · rw [mge_ok ha hb]; exact mrg_few opC _ _ _ (Nat.le_refl _)
    · rw [mge_b ha hb]; exact Nat.zero_le _
  · rw [mge_a ha]; exact Nat.zero_le _
theorem few_st {gs : List Grp} {N : List Rw} {R : List Rp} (h : R = [] ∨ IsSt gs R) (hp : N.map Rw.pr = R) : TBd N 64 ∧ (0 < N.length → 0 < gs.length ∧ gs.length ≤ 4) := by
  rcases h with h | h
  · have h0 : N.length = 0 := by rw [← List.length_map (f := Rw.pr), hp, h]; rfl
    exact ⟨fun j hj => by omega, fun h => by omega⟩
  · refine ⟨tbd_st h hp, fun h0 => ?_⟩
    have hm : (N.getD 0 Rw.zero).pr ∈ R := by rw [← hp]; exact List.mem_map.2 ⟨_, rw_mem h0, rfl⟩
    have hb := h.bare _ hm
    have hg := rgood_inv (h.good _ hm)
    refine ⟨?_, pgood_len h.pol⟩
    by_cases e : gs.length = 0
    · exfalso
      have hl : (N.getD 0 Rw.zero).pr.2 = [] := List.length_eq_zero_iff.1 (by rw [hg.2.2.1, e])
      rw [hl] at hb
      cases hb
    · omega

set_option maxRecDepth 100000 in
set_option maxHeartbeats 12800000 in
theorem mmerges_walk {w : World} {x xa xb : Option Addr} {n1 cap ma capa mb capb : Nat} {gs : List Grp} {LA LB : List Rw} (hg : Grs w x n1 cap gs) (hs : ∀ g ∈ gs, g.1.length ≤ 9223372036854775807) (ha : RwsAt w xa ma capa LA) (hb : RwsAt w xb mb capb LB) (hsa : RShort LA) (hsb : RShort LB) :
    Calls Try.prog 8 #[.slice x n1 cap, .slice xa ma capa, .slice xb mb capb] w (Tells (.bool true) w) := by
  have hle1 := hg.le
  have hmax1 := hg.max
  have hn1 : n1 ≤ 9223372036854775807 := by omega
  have hal := alloc_below w (.cells #[.slice xa ma capa, .slice xb mb capb] 27)
  have hF : RlAt (w.alloc (.cells #[.slice xa ma capa, .slice xb mb capb] 27)) w.heap.size 0 2 (fun j => if j = 0 then (xa, ma, capa, LA) else (xb, mb, capb, LB)) := by
    have hnew := heap_alloc_new w (.cells #[.slice xa ma capa, .slice xb mb capb] 27)
    intro j hj
    by_cases e : j = 0
    · subst e
      exact ⟨by rw [cell_of_row _ _ _ _ _ _ hnew]; rfl, ha.below hal, hsa⟩
    · obtain rfl : j = 1 := by omega
      exact ⟨by rw [cell_of_row _ _ _ _ _ _ hnew]; rfl, hb.below hal, hsb⟩
  have hE : ChsAt (w.alloc (.cells #[.slice xa ma capa, .slice xb mb capb] 27)) none 0 0 [] := ⟨⟨rfl, Nat.le_refl _, by omega, .inl rfl⟩, fun j hj => absurd hj (by omega)⟩
  have HLT := Lib.hid (mlightr_c (x := x) (cap := cap) hn1 hE (Nat.le_refl 2) (by omega) hF)
  have HAL := Lib.hid hal
  have HG := Lib.hid hg
  have HS := Lib.hid hs
  have HA := Lib.hid ha
  have HB := Lib.hid hb
  have HSA := Lib.hid hsa
  have HSB := Lib.hid hsb
  have HLE := Lib.hid hg.len
  clear hal hF hE hg hs ha hb hsa hsb
  go_enter Try.func8, Try.ntmps8
  go_upto_region 3 with (first
    | (go_at_call 29; (with_reducible refine HLT.out.mono ?_); rintro e9 w1 ⟨b, rfl, hbt, hb1⟩)
    | (go_at_call 30; (with_reducible refine (mlives_c _).mono ?_); rintro e9 w9 ⟨rfl, hb9⟩))
  · go_ret
    exact ⟨rfl, HAL.out.trans ((hb1.trans (hb9.mono hb1.size)).mono HAL.out.size)⟩
  have hbt2 := (hbt (by simp_all)).2
  have hfa : LightR (xa, ma, capa, LA) := hbt2 0 (by omega)
  have hfb : LightR (xb, mb, capb, LB) := hbt2 1 (by omega)
  have hma : ma ≤ 600 := hfa.1
  have hmb : mb ≤ 600 := hfb.1
  have hB1 := HAL.out.trans (hb1.mono HAL.out.size)
  have HR := Lib.hid (lrows_c (HA.out.below hB1) (by omega) (fun r hr => by have := hfa.2 r hr; omega))
  have HB1 := Lib.hid hB1
  clear hbt hbt2 hfa hfb hb1 hB1 HLT HAL
  go_upto_region 4 with (go_at_call 31; (with_reducible refine HR.out.mono ?_); rintro e9 w2 ⟨v2, NN, rfl, hp2, ho2, hb2⟩; obtain ⟨ao, co, rfl, hin⟩ := ho2.ins)
  have hB2 := HB1.out.trans (hb2.mono HB1.out.size)
  have hnl : NN.length = ma := by rw [← HA.out.1.len, ← List.length_map (f := Rw.pr), hp2, List.length_map]
  have HOWN := Lib.hid hin.all
  have HG2 := Lib.hid (HG.out.below hB2)
  have HA2 := Lib.hid (HA.out.below hB2)
  have HBB := Lib.hid (HB.out.below hB2)
  have hme := mmerge_c HG2.out HS.out HOWN.out HBB.out (rshort_pr hp2 HSA.out) HSB.out (by omega)
  have hrm := fun (W : World) (h : Below w2.heap.size w2 W) => rmerge_c (HG2.out.below h) HS.out (HA2.out.below h) (HBB.out.below h) HSA.out HSB.out (by omega)
  rw [hp2] at hme
  have HMS := Lib.hid (mge_st (gs := gs) (A := LA.map Rw.pr) (B := LB.map Rw.pr))
  have HMF := Lib.hid (mge_few (gs := gs) (A := LA.map Rw.pr) (B := LB.map Rw.pr))
  obtain ⟨R, hR⟩ : ∃ z, mgeS gs (LA.map Rw.pr) (LB.map Rw.pr) = z := ⟨_, rfl⟩
  rw [hR] at hme HMS HMF
  have hfw : R.1.length ≤ 1200 := by
    have h1 := HMF.out
    simp only [List.length_map] at h1
    have := HA2.out.1.len
    have := HBB.out.1.len
    omega
  simp only [hR] at hrm
  obtain ⟨RR, E⟩ := R
  have HFW := Lib.hid (show RR.length ≤ 1200 from hfw)
  clear hfw HMF
  have HME := Lib.hid hme
  have HRM := Lib.hid hrm
  have hgg := fun (W : World) (h : Below w2.heap.size w2 W) => mgood_c (HG2.out.below h) HS.out (HA2.out.below h) HSA.out
  have hrg := fun (W : World) (h : Below w2.heap.size w2 W) => rmgood_c (HG2.out.below h) HS.out (HA2.out.below h) HSA.out
  have hwi := fun (W : World) (h : Below w2.heap.size w2 W) => mwithin_c (HG2.out.below h) HS.out (HA2.out.below h) (HBB.out.below h) HSA.out HSB.out (by omega)
  have hrw := fun (W : World) (h : Below w2.heap.size w2 W) => rwithin_c (HG2.out.below h) HS.out (HA2.out.below h) (HBB.out.below h) HSA.out HSB.out (by omega)
  obtain ⟨GX, hGX⟩ : ∃ z, mgoodS gs (LA.map Rw.pr) = z := ⟨_, rfl⟩
  obtain ⟨WX, hWX⟩ : ∃ z, mwithS gs (LA.map Rw.pr) (LB.map Rw.pr) = z := ⟨_, rfl⟩
  simp only [hGX] at hgg hrg
  simp only [hWX] at hwi hrw
  have HGG := Lib.hid hgg
  have HRG := Lib.hid hrg
  have HWI := Lib.hid hwi
  have HRW := Lib.hid hrw
  have HP2 := Lib.hid hp2
  have HB2 := Lib.hid hB2
  have hgl : gs.length = n1 := HLE.out
  clear hme hrm hgg hrg hwi hrw hR hGX hWX hp2 hB2 hb2 ho2 hin HR HB1 HB HG HA hma hmb hnl
  go_upto_region 5 with (go_at_call 32; (with_reducible refine HME.out.mono ?_); rintro e9 w3 ⟨vx, NX, rfl, hpx, hox, hb3⟩; obtain ⟨ax, cx, rfl, hax⟩ := hox.at)
  go_upto_region 6 with (go_at_call 33; (with_reducible refine (HRM.out _ hb3).mono ?_); rintro e9 w4 ⟨v4, rfl, ⟨u4, rfl, ay, cy, NY, rfl, hay, hpy⟩, hb4⟩)
  replace hpx : NX.map Rw.pr = RR := hpx
  replace hpy : NY.map Rw.pr = RR := hpy
  obtain ⟨htb, hfew⟩ := few_st (show RR = [] ∨ IsSt gs RR from HMS.out) hpx
  have HALL := Lib.hid (show Calls Try.prog 24 #[.slice ax NX.length cx, .slice ay NY.length cy] w4 (Tells (.bool true) w4) from by
    have h0 := rall2_c (hax.below hb4) hay
    rw [decide_eq_true (hpx.trans hpy.symm)] at h0
    exact h0)
  have HOX := Lib.hid (hox.kept hb4)
  have HB4 := Lib.hid (hb3.trans (hb4.mono hb3.size))
  have HTB := Lib.hid htb
  have HFEW := Lib.hid hfew
  have HNM := Lib.hid (show NX.length ≤ 1200 by rw [← List.length_map (f := Rw.pr), hpx]; exact HFW.out)
  clear hpx hpy hax hay hb3 hb4 hox htb hfew HMS HME HRM
  go_upto_region 8 with (first
    | (go_at_call 24; (with_reducible refine HALL.out.mono ?_); rintro e9 w5 ⟨rfl, hb5⟩; have HB5 := Lib.hid (HB4.out.trans (hb5.mono HB4.out.size)); have HO5 := Lib.hid (HOX.out.kept hb5); clear hb5)
    | (go_at_call 34; (with_reducible refine (HGG.out _ HB5.out).mono ?_); rintro e9 w6 ⟨rfl, hb6⟩; have HB6 := Lib.hid (HB5.out.trans (hb6.mono HB5.out.size)); have HO6 := Lib.hid (HO5.out.kept hb6); clear hb6)
    | (go_at_call 35; (with_reducible refine (HRG.out _ HB6.out).mono ?_); rintro e9 w7 ⟨rfl, hb7⟩; have HB7 := Lib.hid (HB6.out.trans (hb7.mono HB6.out.size)); have HO7 := Lib.hid (HO6.out.kept hb7); clear hb7)
    | (go_at_call 36; (with_reducible refine (HWI.out _ HB7.out).mono ?_); rintro e9 w8 ⟨rfl, hb8⟩; have HB8 := Lib.hid (HB7.out.trans (hb8.mono HB7.out.size)); have HO8 := Lib.hid (HO7.out.kept hb8); clear hb8)
    | (go_at_call 37; (with_reducible refine (HRW.out _ HB8.out).mono ?_); rintro e9 w9 ⟨rfl, hb9⟩; have HB9 := Lib.hid (HB8.out.trans (hb9.mono HB8.out.size)); have HO9 := Lib.hid (HO8.out.kept hb9); clear hb9))
  clear HB4 HB5 HB6 HB7 HB8 HOX HO5 HO6 HO7 HO8 HALL HGG HRG HWI HRW hgl
  go_wp2
  go_loopw [68] (fun j9 wr => ∃ (i : Nat) (N' : List Rw), i ≤ NX.length ∧ j9 = .int .i64 (i : Int) ∧ N'.length = NX.length ∧ OwnRw wr w2.heap.size n1 (.slice ax NX.length cx) N' ∧ TBd N' (1000 * (i + 1)) ∧ Below w2.heap.size w2 wr) (fun j9 _ => NX.length - (intOf j9).toNat)
  case atStart => exact ⟨0, NX, by omega, rfl, rfl, HO9.out, HTB.out.mono (by omega), HB9.out⟩
  case round =>
    clear HO9 HB9 HTB
    obtain ⟨i, N', hi, rfl, hnl, ho, htb, hbx⟩ := hrel
    have HNL := Lib.hid hnl
    have HO := Lib.hid ho
    have HT := Lib.hid htb
    have HBX := Lib.hid hbx
    clear hnl ho htb hbx
    by_cases hin : i < NX.length
    · have hii : (i : Int) < (NX.length : Int) := by omega
      have hmx := HNM.out
      obtain ⟨h0, h4⟩ := HFEW.out (by omega)
      rw [HLE.out] at h0 h4
      obtain ⟨m, hm⟩ : ∃ q, NX.length = q := ⟨_, rfl⟩
      rw [hm] at hin hii HNL HO hmx HNM
      simp only [hm]
      have HM := Lib.hid hm
      have hrw : RwsAt wr ax m cx N' := by
        obtain ⟨a', c', ev, h⟩ := HO.out.at
        rw [HNL.out] at ev h
        injection ev with e1 e2 e3
        subst e1 e3
        exact h
      have hcx := hrw.1.le
      have hcm := hrw.1.max
      have hic : (i : Int) < (cx : Int) := by omega
      obtain ⟨bo, offo, a9, n9, c9, rfl, eu, en, -, hat⟩ := hrw.place hin
      obtain ⟨hown, hcl⟩ := HO.out.own i (by rw [HNL.out]; exact hin)
      obtain ⟨g, cg, ev, hgB, hgc, hgs⟩ := own_some hown (by omega)
      rw [hcl] at en ev hgc
      rw [en] at eu hat
      have ev2 := eu.symm.trans ev
      injection ev2 with e1 e2 e3
      subst e1 e3
      have HU := Lib.hid ev
      obtain ⟨o0, o1⟩ := hat wr (Below.refl _ _)
      clear eu en hown hcl ev hat hrw hm hgs
      have hn9 : n1 ≤ 9223372036854775807 := by omega
      go_wp2
      clear o0 o1
      go_loopw [77] (fun j9 wz => ∃ (k : Nat) (N2 : List Rw), k ≤ n1 ∧ j9 = .int .i64 (k : Int) ∧ N2.length = m ∧ OwnRw wz w2.heap.size n1 (.slice (some ⟨bo, offo, none⟩) m cx) N2 ∧ (N2.getD i Rw.zero).u = .slice (some ⟨g, 0, none⟩) n1 c9 ∧ TBd N2 (1000 * (i + 1) + k) ∧ Below w2.heap.size w2 wz) (fun j9 _ => n1 - (intOf j9).toNat)
      case atStart => exact ⟨0, N', by omega, rfl, HNL.out, HO.out, HU.out, HT.out, HBX.out⟩
      case round =>
        clear HO HT HBX HNL HU
        obtain ⟨k, N2, hk, rfl, hnl, ho, hu, htb, hbx⟩ := hrel
        have HNL := Lib.hid hnl
        have HO := Lib.hid ho
        have HT := Lib.hid htb
        have HBX := Lib.hid hbx
        have HU := Lib.hid hu
        clear hnl ho htb hbx hu
        by_cases hkn : k < n1
        · have hki : (k : Int) < (n1 : Int) := by omega
          have hkc : (k : Int) < (c9 : Int) := by omega
          have hrw : RwsAt wr (some ⟨bo, offo, none⟩) m cx N2 := by
            obtain ⟨a', c', ev, h⟩ := HO.out.at
            rw [HNL.out] at ev h
            injection ev with e1 e2 e3
            subst e1 e3
            exact h
          obtain ⟨bo2, offo2, a9, n9, c92, eb, eu, en, -, hat⟩ := hrw.place hin
          injection eb with eb
          injection eb with e1 e2
          subst e1 e2
          rw [HU.out] at eu
          injection eu with e1 e2 e3
          subst e1 e2 e3
          obtain ⟨o0, o1⟩ := hat wr (Below.refl _ _)
          have hil : i < N2.length := by rw [HNL.out]; exact hin
          obtain ⟨hown, hcl⟩ := HO.out.own i hil
          have hown2 := hown
          rw [HU.out] at hown2
          have hkl : k < (N2.getD i Rw.zero).cs.length := by rw [hcl]; exact hkn
          obtain ⟨-,-,-,-,-, p5, -,-⟩ := own_at hown2 hkl wr (Below.refl _ _)
          have pf := own_fz hown2
          have hlt := HT.out i hil k hkl
          obtain ⟨t, ht⟩ : ∃ z, ((N2.getD i Rw.zero).cs.getD k Cl.zero).t = z := ⟨_, rfl⟩
          rw [ht] at p5 hlt
          have hadd : ∀ W, (Op.stringOp .add (text t) ⟨#[63]⟩).run Try.prog W = .ok (.string (text (t ++ [63]))) W := fun W => text_add t [63] (by simp; omega) W
          have hst : OwnRw (wr.setCell ⟨g, k * 8 + 5, none⟩ (.string (text (t ++ [63])))) w2.heap.size n1 (.slice (some ⟨bo, offo, none⟩) m cx) (N2.set i ⟨(N2.getD i Rw.zero).k, (N2.getD i Rw.zero).u, (N2.getD i Rw.zero).cs.set k { (N2.getD i Rw.zero).cs.getD k Cl.zero with t := t ++ [63] }⟩) := by
            refine HO.out.store hil ?_ ?_ (by rw [List.length_set]; exact hcl) h0
            · rw [HU.out]; exact (OnlyV.refl _ _).cell _ _
            · rw [HU.out]; exact own_putT hown2 hkl _
          have hbd := HT.out.set (t := t ++ [63]) hil hkl (by simp; omega)
          have hbe : Below w2.heap.size w2 (wr.setCell ⟨g, k * 8 + 5, none⟩ (.string (text (t ++ [63])))) := HBX.out.setCell (p := ⟨g, k * 8 + 5, none⟩) hgB _
          have hu2 : ((N2.set i ⟨(N2.getD i Rw.zero).k, (N2.getD i Rw.zero).u, (N2.getD i Rw.zero).cs.set k { (N2.getD i Rw.zero).cs.getD k Cl.zero with t := t ++ [63] }⟩).getD i Rw.zero).u = .slice (some ⟨g, 0, none⟩) n1 c9 := by
            rw [getD_set hil, if_pos rfl]; exact HU.out
          have hnl2 : (N2.set i ⟨(N2.getD i Rw.zero).k, (N2.getD i Rw.zero).u, (N2.getD i Rw.zero).cs.set k { (N2.getD i Rw.zero).cs.getD k Cl.zero with t := t ++ [63] }⟩).length = m := by rw [List.length_set]; exact HNL.out
          obtain ⟨t1, ht1⟩ : ∃ z, text t = z := ⟨_, rfl⟩
          obtain ⟨t2, ht2⟩ : ∃ z, text (t ++ [63]) = z := ⟨_, rfl⟩
          rw [ht1] at p5
          simp only [ht1, ht2] at hadd
          rw [ht2] at hst hbe
          generalize N2.set i ⟨(N2.getD i Rw.zero).k, (N2.getD i Rw.zero).u, (N2.getD i Rw.zero).cs.set k { (N2.getD i Rw.zero).cs.getD k Cl.zero with t := t ++ [63] }⟩ = N3 at *
          have H1 := Lib.hid hst
          have H2 := Lib.hid hbd
          have H3 := Lib.hid hbe
          have H4 := Lib.hid hu2
          have H5 := Lib.hid hnl2
          have pf5 := pf (k * 8 + 5)
          clear hst hbd hbe hu2 hnl2 ht1 ht2 ht hlt hown hown2 hcl hkl hil hat hrw en pf
          go_wp2
          go_roundw
          case rel => exact ⟨k + 1, N3, by omega, by go_num, H5.out, H1.out, H4.out, H2.out, H3.out⟩
          case measure => simp [intOf]; omega
        · obtain rfl : k = n1 := by omega
          go_wp2
          go_roundw
          case rel => exact ⟨i + 1, N2, by omega, by go_num, HNL.out, HO.out, HT.out.mono (by omega), HBX.out⟩
          case measure => simp [intOf]; omega
    · obtain rfl : i = NX.length := by omega
      have HAL := Lib.hid (show Calls Try.prog 24 #[.slice ao NN.length co, .slice xa ma capa] wr (Tells (.bool true) wr) from by
        have h0 := rall2_c (HOWN.out.below HBX.out) (HA2.out.below HBX.out)
        rw [decide_eq_true HP2.out] at h0
        exact h0)
      go_wp2_with (first
        | (go_at_call 24; (with_reducible refine HAL.out.mono ?_); rintro e9 w10 ⟨rfl, hb10⟩)
        | (go_at_call 30; (with_reducible refine (mlives_c _).mono ?_); rintro e9 w11 ⟨rfl, hb11⟩))
      go_ret
      exact ⟨rfl, HB2.out.trans ((HBX.out.trans ((hb10.trans (hb11.mono hb10.size)).mono HBX.out.size)).mono HB2.out.size)⟩
end Go.Proofs.Ytidbjmkfmfojdaa
end

