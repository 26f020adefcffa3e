/-
  Merged: K6 OO OV OW.
-/
import Derived.Deep.QuietTactic
import Derived.StillTail
import Derived.Lib.QuietBelow
import Derived.Test.YtbpgfmcnpifmdaaRows
import Derived.OrdersIn
import Derived.TacticsIn
import Derived.RangeFuncNested
import Derived.RangeFuncBound
import Derived.RangeFuncCalls
import Derived.RangeFuncLeaves
import Derived.WalkKit
import Derived.Lib.Hide
import Derived.BigQuiet
import Derived.BigRegion
import Derived.Deep.Cut
import Derived.Deep.MidRow
import Derived.Great.BuildSlice
import Derived.Outline
import Derived.OwnWalk
import Derived.Laws.Rows
import Derived.ChangeKeysEq
import Derived.Laws.StructEq
import Derived.WalkSpells
import Derived.WalkLawsBesides
import Derived.Laws.CopyOwn
import Derived.WalkSmall
import Derived.Lib.LaidTab
import Derived.Deep.RegionWith
import Derived.Lib.MinMax
import Derived.WideShapes
import Derived.ChangeSame
import Derived.OpenShut
import Derived.Deep.Slices
import Derived.Deep.AppendSrc
import Derived.Lib.AppendZerosOnto
import Derived.Lib.SliceRun
import Derived.Lib.Walk
import Derived.Lib.OthersKept
import Derived.Laws.RangeAny
import Derived.Maps.OwnOps
import Derived.Maps.Views
import Derived.ChangeSlices
import Derived.ChangeArms
import Derived.Deep.DeepAppendWide
import Derived.Maps.AppendAt
import Derived.Shelf.Abstract
import Derived.OwnWalkIn
import Derived.TacticsInMore
import Derived.LoopNIn
import Derived.LoopIn
import Derived.Shelf.Spec.SlicesInsertGrow
import Derived.Test.YtbpgfmcnpifmdaaSY1

section
namespace Go.Proofs.Ytbpgfmcnpifmdaa
open Go.RowKit Go Go.Sort
set_option linter.unusedVariables false
set_option maxRecDepth 20000

theorem Cel.vc {W : World} {q : Nat} {n s a b d e : Int} {g : Bool} {t : List UInt8} (h : Cel W q n s a b g t d e) (a' : Int) (b' : Int) : Cel ((W.setCell ⟨q, 2, none⟩ (.int .i64 a')).setCell ⟨q, 3, none⟩ (.int .i64 b')) q n s a' b' g t d e := by
  have h0 : (W.setCell ⟨q, 2, none⟩ (.int .i64 a')).heap[q]? = some (.cells #[.int .i64 n, .int .i64 s, .int .i64 a', .int .i64 b, .bool g, .string (text t), .int .i64 d, .int .i64 e] 103 (0, 0)) := (heap_setCell_same _ q 2 _ _ _ h).trans rfl
  have h1 : ((W.setCell ⟨q, 2, none⟩ (.int .i64 a')).setCell ⟨q, 3, none⟩ (.int .i64 b')).heap[q]? = some (.cells #[.int .i64 n, .int .i64 s, .int .i64 a', .int .i64 b', .bool g, .string (text t), .int .i64 d, .int .i64 e] 103 (0, 0)) := (heap_setCell_same _ q 3 _ _ _ h0).trans rfl
  exact h1
end Go.Proofs.Ytbpgfmcnpifmdaa
end

section
namespace Go.Proofs.Ytbpgfmcnpifmdaa
open Go.RowKit Go Go.Sort Go.Lib
set_option linter.unusedVariables false
set_option maxRecDepth 20000

theorem wpList_append_bk {w : World} {ops : Array Oper} {rest : List Oper} {o : Oper} {ac : Act} {Q : Exit → Act → World → Prop} (hgd : o.guard = none) (os ox : Operand)
    (ho : o.op = .call { callee := .builtin .append, args := #[os, ox], argTypes := #[55, 55] })
    {base gv : Nat} {u : Value} {l : List Blk} (hs : ac.eval os = u) (hown : OwnL 1 107 Blk.arr w base u l) (b : Blk) {e9 : TypeId}
    (hx : ac.eval ox = .slice (some ⟨gv, 0, none⟩) 1 1) (hgv : w.heap[gv]? = some (.cells #[b.val] e9 (0, 0))) (h63 : l.length ≤ 1000000000) (hbase : base ≤ w.heap.size)
    (h : ∀ v' w', OwnL 1 107 Blk.arr w' base v' (l ++ [b]) → w.grownBy w' u.ownBlock → wpList Try.prog ops Q rest (ac.put o.dst v') w') :
    wpList Try.prog ops Q (o :: rest) ac w := by
  obtain ⟨i0, hi, hz0, hz1, hz2⟩ := info_parts Try.infoBk
  refine wpList_append_own_wide (P := Try.prog) w hgd os ox 55 ho base 107 i0 _ 1 24 Try.underlying55 hi hz0 hz1 hz2 rfl (by decide) u l.length (lCells Blk.arr l) hs hown
    ⟨gv, 0, none⟩ 1 1 [b.val] hx rfl ?_ ?_ (by unfold maxLen; omega) (by omega) hbase ?_
  · intro j v hj
    rw [addr_add, Nat.zero_add, cell_of_row _ _ j #[b.val] e9 (0, 0) hgv]
    rw [← hj]; simp
  · intro v hv
    rw [List.mem_singleton] at hv
    subst hv
    rfl
  · intro v' w' h2 h3 _
    refine h v' w' ?_ h3
    unfold OwnL
    rw [List.length_append, lCells_append]
    exact h2
theorem nd_of {l : List Nat} (h : l.Nodup) : ∀ i j, i < l.length → j < l.length → l.getD i 0 = l.getD j 0 → i = j := by
  intro i j hi hj e
  rw [List.getD_eq_getElem?_getD, List.getD_eq_getElem?_getD, List.getElem?_eq_getElem hi, List.getElem?_eq_getElem hj] at e
  exact (List.getElem_inj h).1 e
theorem CpPh.congr {Wb : World} {B q' : Nat} {v : Value} {LB : List Blk} {rows : List Rw} : ∀ p xs xs' W, (∀ j, j ∈ [6, 7, 8, 11] → xs j = xs' j) → CpPh Wb B q' v LB rows p xs W → CpPh Wb B q' v LB rows p xs' W
  | 0, _, _, _, _, h => h
  | 1, xs, xs', W, he, h => by
    obtain ⟨g, c, h1, h2⟩ := h
    exact ⟨g, c, (he 6 (by decide)).symm.trans h1, h2⟩
  | 2, xs, xs', W, he, h => by
    obtain ⟨g, c, gv, h1, h2⟩ := h
    exact ⟨g, c, gv, (he 7 (by decide)).symm.trans h1, h2⟩
  | 3, xs, xs', W, he, h => by
    obtain ⟨g, c, h1, h2⟩ := h
    exact ⟨g, c, by rw [← he 8 (by decide)]; exact h1, h2⟩
  | p + 4, _, _, _, _, h => h
set_option maxRecDepth 100000 in
set_option maxHeartbeats 6400000 in
theorem mcopy_c {w : World} {q : Nat} {vb : Value} {BS : List Blk} (h : MapIn w q vb BS) (hf : (rowsOf BS).length ≤ 1000000) :
    Calls Try.prog 30 #[.pointer (some ⟨q, 0, none⟩)] w (fun e w' => ∃ q' vb' BS', e = .returned (.pointer (some ⟨q', 0, none⟩)) ∧ MapIn w' q' vb' BS' ∧ rowsOf BS' = rowsOf BS ∧ Below w.heap.size w w' ∧ ∀ k, foot q' vb' BS' k → w.heap.size ≤ k) := by
  obtain ⟨ab, cb, hvb, hbk⟩ := h.blks hf
  obtain ⟨nb, hnb⟩ : ∃ z, BS.length = z := ⟨_, rfl⟩
  rw [hnb] at hvb hbk
  subst hvb
  obtain ⟨n, hn⟩ : ∃ z, (rowsOf BS).length = z := ⟨_, rfl⟩
  have hhd := h.head
  rw [hn] at hhd
  obtain ⟨m0, m1, m2, mf⟩ := map_cells hhd
  have hle := hbk.row.le
  have hmax := hbk.row.max
  have hfew := hbk.few
  have HBK := Lib.hid hbk
  have HMI := Lib.hid h
  have HN := Lib.hid hn
  have HNB := Lib.hid hnb
  have HF := Lib.hid hf
  have hal := alloc_below w (.cells #[.bool true, .int .i64 (n : Int), .slice none 0 0] 57)
  have hnw := heap_alloc_new w (.cells #[.bool true, .int .i64 (n : Int), .slice none 0 0] 57)
  have hm2 := (map_cells (heap_below hhd hal)).2.2.1
  have HB1 := Lib.hid hal
  have HW1 := Lib.hid hnw
  clear h hbk hf hn hnb hhd hal hnw
  go_enter Try.func30, Try.ntmps30
  go_upto_region 5 with (go_at_call 60; (with_reducible refine (smade_c m0).mono ?_); rintro e9 w9 ⟨rfl, hw9⟩; replace hw9 := hw9.symm; subst hw9)
  obtain ⟨B, hB⟩ : ∃ z, w.heap.size = z := ⟨_, rfl⟩
  have HBe := Lib.hid hB
  rw [hB] at HW1 ⊢
  clear hB
  generalize w.alloc (.cells #[.bool true, .int .i64 (n : Int), .slice none 0 0] 57) = W1 at *
  clear m0 m1 m2 mf hm2
  go_loopw [20] (fun j wr => ∃ (k : Nat) (v : Value) (LB : List Blk), k ≤ nb ∧ j = .int .i64 (k : Int) ∧ OwnL 1 107 Blk.arr wr B v LB ∧ LB.map Blk.rows = (BS.take k).map Blk.rows ∧ wr.heap[B]? = some (.cells #[.bool true, .int .i64 (n : Int), v] 57 (0, 0)) ∧
    (∀ b ∈ LB, 0 < b.rows.length ∧ At 2 30 Rw.arr wr b.g b.off b.cap b.rows ∧ B ≤ b.g) ∧ LB.Pairwise Blk.Apart ∧ Below w.heap.size w wr) (fun j _ => nb - (RowKit.intOf j).toNat)
  case atStart => exact ⟨0, .slice none 0 0, [], Nat.zero_le _, rfl, OwnL.nil _ _ _, rfl, HW1.out, fun b hb => (nomatch hb), List.Pairwise.nil, HB1.out⟩
  case round =>
    clear HW1 HB1
    obtain ⟨k, v, LB, hk, rfl, hov, hlb, hq, hbl, hap, hb⟩ := hrel
    have hlbl : LB.length = k := by
      have h9 := congrArg List.length hlb
      simp only [List.length_map, List.length_take] at h9
      have := HNB.out
      omega
    by_cases hlt : k < nb
    · have hki : (k : Int) < (nb : Int) := by omega
      have hkc : (k : Int) < (cb : Int) := by omega
      obtain ⟨bo, offo, rfl, hat⟩ := HBK.out.row.at hlt
      have hbm : BS.getD k Blk.zero ∈ BS := blk_mem (by have := HNB.out; omega)
      have hkB : k < BS.length := by have := HNB.out; omega
      have hcc : wr.cell? ⟨bo, offo + k, none⟩ = some (BS.getD k Blk.zero).val := by
        have h9 := hat wr hb 0 _ rfl
        rw [Nat.mul_one, Nat.add_zero] at h9
        have h8 : (BS.map Blk.val).getD k undef = (BS.getD k Blk.zero).val := getD_mapB _ _ hkB
        rw [← h8]
        exact h9
      have htk : (BS.take (k + 1)).map Blk.rows = (BS.take k).map Blk.rows ++ [(BS.getD k Blk.zero).rows] := by
        rw [List.take_add_one, List.getElem?_eq_getElem hkB, List.map_append, List.getD_eq_getElem?_getD, List.getElem?_eq_getElem hkB]
        rfl
      have hbb := HMI.out.body.blk _ hbm
      have hrow := HMI.out.body.row _ hbm
      have hrl := Nat.le_trans (rows_le hbm) HF.out
      obtain ⟨b, hbe⟩ : ∃ z, BS.getD k Blk.zero = z := ⟨_, rfl⟩
      rw [hbe] at hcc htk hbb hrow hrl
      obtain ⟨g, off, c', l⟩ := b
      replace hbb : 0 < l.length ∧ At 2 30 Rw.arr w g off c' l := hbb
      replace hrow : ∀ r ∈ l, OwnC w 0 r.u r.cs ∧ r.cs.length ≤ 1000000 := hrow
      replace hrl : l.length ≤ 1000000 := hrl
      replace htk : (BS.take (k + 1)).map Blk.rows = (BS.take k).map Blk.rows ++ [l] := htk
      obtain ⟨m, hmm⟩ : ∃ z, l.length = z := ⟨_, rfl⟩
      have hvl : (⟨g, off, c', l⟩ : Blk).val = .slice (some ⟨g, off, none⟩) m c' := by simp only [Blk.val, hmm]
      rw [hvl] at hcc
      obtain ⟨a0, c0, ev, -⟩ := hov.ls (z := Blk.zero) blk_size
      rw [hlbl] at ev
      subst ev
      have HOV := Lib.hid hov
      have HLB := Lib.hid hlb
      have HQ := Lib.hid hq
      have HBL := Lib.hid hbl
      have HAP := Lib.hid hap
      have HB := Lib.hid hb
      have HTK := Lib.hid htk
      have HBB := Lib.hid hbb
      have HROW := Lib.hid hrow
      have HRL := Lib.hid hrl
      have HMM := Lib.hid hmm
      have HLBL := Lib.hid hlbl
      clear hov hlb hq hbl hap hb htk hbb hrow hrl hmm hat hbm hkB hbe hvl hlbl
      go_upto_region 7 with (fail)
      clear hcc
      have hbe : Below wr.heap.size wr { wr with drawn := wr.drawn + 1 } := ⟨rfl, rfl, rfl, Nat.le_refl _, fun _ _ => rfl⟩
      have HBE := Lib.hid hbe
      clear hbe
      have HBsz := Lib.hid (show B ≤ wr.heap.size by have h9 := HBe.out; have h8 := HB.out.size; omega)
      have HBQ := Lib.hid (fun (W : World) (h : Below wr.heap.size wr W) => map_cells (show HeadAt W B n (.slice a0 k c0) from heap_below HQ.out h))
      refine wp_region_inv [none, none, none, none, none, none, none, none, none, none, none, none, none, none, none, none, none, none, none, none, none, none, none, none, some 0, some 1, some 2, some 3, some 4, some 5, some 6, some 7, some 8, some 9, some 10, none, none] (fun j9 => [u24, u25, u26, u27, u28, u29, u30, u31, u32, u33, u34, undef].getD j9 undef) (InvG 12 [6, 7, 8, 11] (fun j9 => [[], [], [1], [2], [3], [], [5], [6], [4, 7], [0], [9], [10, 8]].getD j9 []) (fun j9 => [.pointer (some ⟨B, 0, none⟩), .pointer (some ⟨B, 0, none⟩), .pointer (some ⟨B, 0, none⟩), .pointer (some ⟨B, 2, none⟩), .slice a0 k c0, .slice (some ⟨g, off, none⟩) m c', undef, undef, undef, .pointer (some ⟨B, 0, none⟩), .pointer (some ⟨B, 2, none⟩), undef].getD j9 undef) (CpPh wr B B (.slice a0 k c0) LB l)) (by kernel_rfl) (by kernel_rfl) rfl rfl (fun L hL => InvG.start hL (by decide) HBE.out) ?_ ?_
      · simp only [invOps, and_true]
        refine ⟨?_, ?_, ?_, ?_, ?_, ?_, ?_, ?_, ?_, ?_, ?_, ?_⟩
        · intro L xs W hI hL hn
          simp only [flowAct, List.zipWith_cons_cons, List.zipWith_nil_left]
          go_wp2_with (fail)
          exact ⟨rfl, _, rfl, hI.val CpPh.congr 0 (by decide) rfl (fun j hj => by simp at hj)⟩
        · intro L xs W hI hL hn
          simp only [flowAct, List.zipWith_cons_cons, List.zipWith_nil_left]
          go_wp2_with (fail)
          exact ⟨rfl, _, rfl, hI.val CpPh.congr 1 (by decide) rfl (fun j hj => by simp at hj)⟩
        · intro L xs W hI hL hn
          simp [invNeeds, Region.binds] at hn
          have hd : ∀ j ∈ ([1] : List Nat), L j = true := by
            intro j hj
            simp only [List.mem_cons, List.not_mem_nil, or_false] at hj
            rcases hj with rfl <;> simp only [hn]
          have e1 : xs 1 = .pointer (some ⟨B, 0, none⟩) := hI.at' 1 (by decide) (by simp only [hn]) (by decide)
          simp only [flowAct, List.zipWith_cons_cons, List.zipWith_nil_left]
          simp only [e1]
          go_wp2_with (fail)
          exact ⟨rfl, _, rfl, hI.val CpPh.congr 2 (by decide) rfl (fun j hj => hd j (by simpa using hj))⟩
        · intro L xs W hI hL hn
          simp [invNeeds, Region.binds] at hn
          have hd : ∀ j ∈ ([2] : List Nat), L j = true := by
            intro j hj
            simp only [List.mem_cons, List.not_mem_nil, or_false] at hj
            rcases hj with rfl <;> simp only [hn]
          have e2 : xs 2 = .pointer (some ⟨B, 0, none⟩) := hI.at' 2 (by decide) (by simp only [hn]) (by decide)
          simp only [flowAct, List.zipWith_cons_cons, List.zipWith_nil_left]
          simp only [e2]
          go_wp2_with (fail)
          exact ⟨rfl, _, rfl, hI.val CpPh.congr 3 (by decide) rfl (fun j hj => hd j (by simpa using hj))⟩
        · intro L xs W hI hL hn
          simp [invNeeds, Region.binds] at hn
          have hd : ∀ j ∈ ([3] : List Nat), L j = true := by
            intro j hj
            simp only [List.mem_cons, List.not_mem_nil, or_false] at hj
            rcases hj with rfl <;> simp only [hn]
          have e3 : xs 3 = .pointer (some ⟨B, 2, none⟩) := hI.at' 3 (by decide) (by simp only [hn]) (by decide)
          have h8 : L 8 = false := hI.notyet 8 hL (fun L hd9 h8 => hd9 8 (by decide) h8 4 (by simp))
          obtain ⟨p, hp, hph⟩ := hI.early 2 (k := 8) rfl (by decide) h8
          obtain ⟨-, -, m2, -⟩ := HBQ.out W (hph.below hp)
          clear hph
          simp only [flowAct, List.zipWith_cons_cons, List.zipWith_nil_left]
          simp only [e3]
          go_wp2_with (fail)
          exact ⟨rfl, _, rfl, hI.val CpPh.congr 4 (by decide) rfl (fun j hj => hd j (by simpa using hj))⟩
        · intro L xs W hI hL hn
          simp only [flowAct, List.zipWith_cons_cons, List.zipWith_nil_left]
          go_wp2_with (fail)
          exact ⟨rfl, _, rfl, hI.val CpPh.congr 5 (by decide) rfl (fun j hj => by simp at hj)⟩
        · intro L xs W hI hL hn
          simp [invNeeds, Region.binds] at hn
          have hd : ∀ j ∈ ([5] : List Nat), L j = true := by
            intro j hj
            simp only [List.mem_cons, List.not_mem_nil, or_false] at hj
            rcases hj with rfl <;> simp only [hn]
          have e5 : xs 5 = .slice (some ⟨g, off, none⟩) m c' := hI.at' 5 (by decide) (by simp only [hn]) (by decide)
          have hp0 : Below wr.heap.size wr W := hI.now 0 (k := 6) rfl (by decide) hL (.inl rfl)
          have HP0 := Lib.hid hp0
          have HCL := Lib.hid (bclone_c (HBB.out.2.below (HB.out.trans (hp0.mono (by have h9 := HB.out.size; omega)))) HBB.out.1 HRL.out (fun x hx => rw_one (HROW.out x hx).1))
          rw [HMM.out] at HCL
          clear hp0
          simp only [flowAct, List.zipWith_cons_cons, List.zipWith_nil_left]
          simp only [e5]
          go_wp2_with (go_at_call 68; (with_reducible refine HCL.out.mono ?_); rintro e9 w9 ⟨g1, c1, rfl, hg1, hat1, hb9⟩)
          exact ⟨rfl, _, rfl, hI.step (nd_of (by decide)) 0 rfl (by decide) hL (.inl rfl) _ (show CpPh wr B B (.slice a0 k c0) LB l 1 _ _ from ⟨g1, c1, by simp [HMM.out], Nat.le_trans HP0.out.size hg1, hat1, HP0.out.trans (hb9.mono HP0.out.size)⟩) (fun j hj => hd j (by simpa using hj))⟩
        · intro L xs W hI hL hn
          simp [invNeeds, Region.binds] at hn
          have hd : ∀ j ∈ ([6] : List Nat), L j = true := by
            intro j hj
            simp only [List.mem_cons, List.not_mem_nil, or_false] at hj
            rcases hj with rfl <;> simp only [hn]
          obtain ⟨g1, c1, e6, hg1, hat1, hb1⟩ := hI.now 1 (k := 7) rfl (by decide) hL (.inr (by simp [hn]))
          have hal := alloc_below W (.cells #[.slice (some ⟨g1, 0, none⟩) l.length c1] 107)
          have HP := Lib.hid (show CpPh wr B B (.slice a0 k c0) LB l 2 (fun j => if j = 7 then .slice (some ⟨W.heap.size, 0, none⟩) 1 1 else xs j) (W.alloc (.cells #[.slice (some ⟨g1, 0, none⟩) l.length c1] 107)) from ⟨g1, c1, W.heap.size, by simp, heap_alloc_new W _, hg1, hat1.below hal, hb1.trans (hal.mono hb1.size)⟩)
          rw [HMM.out] at HP e6
          clear hat1 hb1 hal
          simp only [flowAct, List.zipWith_cons_cons, List.zipWith_nil_left]
          simp only [e6]
          go_wp2_with (fail)
          exact ⟨rfl, _, rfl, hI.step (nd_of (by decide)) 1 rfl (by decide) hL (.inr (by simp [hn])) _ HP.out (fun j hj => hd j (by simpa using hj))⟩
        · intro L xs W hI hL hn
          simp [invNeeds, Region.binds] at hn
          have hd : ∀ j ∈ ([4, 7] : List Nat), L j = true := by
            intro j hj
            simp only [List.mem_cons, List.not_mem_nil, or_false] at hj
            rcases hj with rfl | rfl <;> simp only [hn]
          have e4 : xs 4 = .slice a0 k c0 := hI.at' 4 (by decide) (by simp only [hn]) (by decide)
          obtain ⟨g1, c1, gv, e7, hgv, hg1, hat1, hb1⟩ := hI.now 2 (k := 8) rfl (by decide) hL (.inr (by simp [hn]))
          have HOW := Lib.hid (HOV.out.kept hb1)
          have HGV := Lib.hid hgv
          have HAT1 := Lib.hid hat1
          have HB1 := Lib.hid hb1
          clear hgv hat1 hb1
          simp only [flowAct, List.zipWith_cons_cons, List.zipWith_nil_left]
          simp only [e4, e7]
          go_wp2_with (at_builtin; refine wpList_append_bk rfl _ _ rfl (u := .slice a0 k c0) rfl HOW.out ⟨g1, 0, c1, l⟩ rfl HGV.out (by have h9 := HLBL.out; omega) (by have h9 := HBsz.out; have h8 := HB1.out.size; omega) ?_; intro v8 w8 ho8 hg8)
          exact ⟨rfl, _, rfl, hI.step (nd_of (by decide)) 2 rfl (by decide) hL (.inr (by simp [hn])) _ (show CpPh wr B B (.slice a0 k c0) LB l 3 _ _ from ⟨g1, c1, by simpa using ho8, hg1, HAT1.out.of_block (hg8.block g1 HAT1.out.lt (fun e => by
            obtain ⟨cur1, hcur1, -⟩ := HAT1.out.blk
            obtain ⟨hlen, ⟨ev, -⟩ | ⟨g9, cap9, cur9, ev, hB9, hg9, -⟩⟩ := HOW.out
            · rw [ev] at e; cases e
            · rw [ev] at e
              obtain rfl : g1 = g9 := Option.some.inj e
              exact absurd (tne hcur1 hg9) (by decide))), W, HB1.out, hg8⟩) (fun j hj => hd j (by simpa using hj))⟩
        · intro L xs W hI hL hn
          simp [invNeeds, Region.binds] at hn
          have hd : ∀ j ∈ ([0] : List Nat), L j = true := by
            intro j hj
            simp only [List.mem_cons, List.not_mem_nil, or_false] at hj
            rcases hj with rfl <;> simp only [hn]
          have e0 : xs 0 = .pointer (some ⟨B, 0, none⟩) := hI.at' 0 (by decide) (by simp only [hn]) (by decide)
          simp only [flowAct, List.zipWith_cons_cons, List.zipWith_nil_left]
          simp only [e0]
          go_wp2_with (fail)
          exact ⟨rfl, _, rfl, hI.val CpPh.congr 9 (by decide) rfl (fun j hj => hd j (by simpa using hj))⟩
        · intro L xs W hI hL hn
          simp [invNeeds, Region.binds] at hn
          have hd : ∀ j ∈ ([9] : List Nat), L j = true := by
            intro j hj
            simp only [List.mem_cons, List.not_mem_nil, or_false] at hj
            rcases hj with rfl <;> simp only [hn]
          have e9 : xs 9 = .pointer (some ⟨B, 0, none⟩) := hI.at' 9 (by decide) (by simp only [hn]) (by decide)
          simp only [flowAct, List.zipWith_cons_cons, List.zipWith_nil_left]
          simp only [e9]
          go_wp2_with (fail)
          exact ⟨rfl, _, rfl, hI.val CpPh.congr 10 (by decide) rfl (fun j hj => hd j (by simpa using hj))⟩
        · intro L xs W hI hL hn
          simp [invNeeds, Region.binds] at hn
          have hd : ∀ j ∈ ([10, 8] : List Nat), L j = true := by
            intro j hj
            simp only [List.mem_cons, List.not_mem_nil, or_false] at hj
            rcases hj with rfl | rfl <;> simp only [hn]
          have e10 : xs 10 = .pointer (some ⟨B, 2, none⟩) := hI.at' 10 (by decide) (by simp only [hn]) (by decide)
          obtain ⟨g1, c1, ho8, hg1, hat1, W0, hw0, hgr⟩ := hI.now 3 (k := 11) rfl (by decide) hL (.inr (by simp [hn]))
          obtain ⟨v8, hv8⟩ : ∃ z, xs 8 = z := ⟨_, rfl⟩
          rw [hv8] at ho8
          have hq4 : W.heap[B]? = some (.cells #[.bool true, .int .i64 (n : Int), .slice a0 k c0] 57 (0, 0)) := (hgr.block B (by have h9 := HBsz.out; have h8 := (Array.getElem?_eq_some_iff.1 HQ.out).1; have h7 := hw0.size; omega) (fun e => by
            have h9 := heap_below HQ.out hw0
            obtain ⟨hlen, ⟨ev, -⟩ | ⟨g9, cap9, cur9, ev, hB9, hg9, -⟩⟩ := HOV.out.kept hw0
            · rw [ev] at e; cases e
            · rw [ev] at e
              obtain rfl : B = g9 := Option.some.inj e
              exact absurd (tne h9 hg9) (by decide))).trans (heap_below HQ.out hw0)
          obtain ⟨-, -, m2, mf⟩ := map_cells hq4
          obtain ⟨a8, c8, ev8, -⟩ := ho8.ls (z := Blk.zero) blk_size
          rw [List.length_append, List.length_singleton, HLBL.out] at ev8
          subst ev8
          have HP := Lib.hid (show CpPh wr B B (.slice a0 k c0) LB l 4 (fun j => if j = 11 then undef else xs j) (W.setCell ⟨B, 2, none⟩ (.slice a8 (k + 1) c8)) from ⟨g1, c1, _, W, ho8, hg1, hat1, ⟨W0, hw0, hgr⟩, rfl⟩)
          clear ho8 hat1 hw0 hgr hq4
          simp only [flowAct, List.zipWith_cons_cons, List.zipWith_nil_left]
          simp only [e10, hv8]
          go_wp2_with (fail)
          exact ⟨rfl, undef, rfl, hI.step (nd_of (by decide)) 3 rfl (by decide) hL (.inr (by simp [hn])) _ HP.out (fun j hj => hd j (by simpa using hj))⟩
      · intro L xs W3 hI hL
        obtain ⟨g1, c1, v8, W4, ho8, hg1, hat1, ⟨W0, hw0, hgr⟩, hW3⟩ := hI.last (by decide) hL
        clear hI hL
        have hnot : ∀ (j : Nat) (cur : Array Value) (ty : TypeId) (f : Nat × Nat), W0.heap[j]? = some (.cells cur ty f) → ty ≠ 107 → W4.heap[j]? = W0.heap[j]? := fun j cur ty f hc hn => hgr.block j (Array.getElem?_eq_some_iff.1 hc).1 (fun e => by
          obtain ⟨hlen, ⟨ev, -⟩ | ⟨g9, cap9, cur9, ev, hB9, hg9, -⟩⟩ := HOV.out.kept hw0
          · rw [ev] at e; cases e
          · rw [ev] at e
            obtain rfl : j = g9 := Option.some.inj e
            exact hn (tne hc hg9))
        have hq4 : W4.heap[B]? = some (.cells #[.bool true, .int .i64 (n : Int), .slice a0 k c0] 57 (0, 0)) := by
          have h9 := heap_below HQ.out hw0
          exact (hnot B _ _ _ h9 (by decide)).trans h9
        have hq3 : W3.heap[B]? = some (.cells #[.bool true, .int .i64 (n : Int), v8] 57 (0, 0)) := by rw [hW3]; exact (heap_setCell_same W4 B 2 _ _ v8 hq4).trans rfl
        have hoth : ∀ j, j ≠ B → W3.heap[j]? = W4.heap[j]? := fun j hj => by rw [hW3]; exact Below.heap_setCell W4 ⟨B, 2, none⟩ v8 j hj
        have hnB : ∀ (j : Nat) (cur : Array Value) (ty : TypeId) (f : Nat × Nat), W4.heap[j]? = some (.cells cur ty f) → ty ≠ 57 → j ≠ B := fun j cur ty f hc hn e => by subst e; exact hn (tne hc hq4)
        have ho3 : OwnL 1 107 Blk.arr W3 B v8 (LB ++ [⟨g1, 0, c1, l⟩]) := ho8.of_block fun j hj => by
          obtain ⟨hlen, ⟨ev, -⟩ | ⟨g9, cap9, cur9, ev, hB9, hg9, -⟩⟩ := ho8
          · rw [ev] at hj; cases hj
          · rw [ev] at hj
            obtain rfl : g9 = j := Option.some.inj hj
            exact hoth _ (hnB _ _ _ _ hg9 (by decide))
        have hat3 : At 2 30 Rw.arr W3 g1 0 c1 l := hat1.of_block (hoth _ (by obtain ⟨cur, hc, -⟩ := hat1.blk; exact hnB _ _ _ _ hc (by decide)))
        have hbl3 : ∀ b ∈ LB ++ [(⟨g1, 0, c1, l⟩ : Blk)], 0 < b.rows.length ∧ At 2 30 Rw.arr W3 b.g b.off b.cap b.rows ∧ B ≤ b.g := fun b hb9 => by
          rcases List.mem_append.1 hb9 with hb9 | hb9
          · have h9 := HBL.out b hb9
            have h8 := h9.2.1.below hw0
            obtain ⟨cur, hc, -⟩ := h8.blk
            have h7 := h8.of_block (hnot _ _ _ _ hc (by decide))
            obtain ⟨cur2, hc2, -⟩ := h7.blk
            exact ⟨h9.1, h7.of_block (hoth _ (hnB _ _ _ _ hc2 (by decide))), h9.2.2⟩
          · rw [List.mem_singleton] at hb9
            subst hb9
            exact ⟨HBB.out.1, hat3, Nat.le_trans HBsz.out hg1⟩
        have hap3 : (LB ++ [(⟨g1, 0, c1, l⟩ : Blk)]).Pairwise Blk.Apart := List.pairwise_append.2 ⟨HAP.out, List.pairwise_singleton _ _, fun a ha b hb9 => by
          rw [List.mem_singleton] at hb9
          subst hb9
          have h9 := (HBL.out a ha).2.1.lt
          exact .inl (show a.g ≠ g1 by omega)⟩
        have hrw3 : (LB ++ [(⟨g1, 0, c1, l⟩ : Blk)]).map Blk.rows = (BS.take (k + 1)).map Blk.rows := by rw [List.map_append, HLB.out, HTK.out]; rfl
        have hb3 : Below w.heap.size w W3 := by
          rw [hW3]
          refine ((HB.out.trans (hw0.mono (by have h9 := HB.out.size; omega))).grown hgr (by have h9 := HB.out.size; have h8 := hw0.size; omega) (fun j e => ?_)).setCell (p := ⟨B, 2, none⟩) (by have := HBe.out; simp; omega) _
          have h9 := (HOV.out.kept hw0).lt j e
          have := HBe.out
          omega
        have HO3 := Lib.hid ho3
        have HQ3 := Lib.hid hq3
        have HBL3 := Lib.hid hbl3
        have HAP3 := Lib.hid hap3
        have HRW3 := Lib.hid hrw3
        have HB3 := Lib.hid hb3
        clear ho3 hq3 hbl3 hap3 hrw3 hb3 hnot hq4 hoth hnB ho8 hat1 hat3 hw0 hgr hW3
        simp only [flowAct, List.zipWith_cons_cons, List.zipWith_nil_left]
        go_wp2
        go_roundw
        case rel => exact ⟨k + 1, v8, _, by omega, by go_num, HO3.out, HRW3.out, HQ3.out, HBL3.out, HAP3.out, HB3.out⟩
        case measure => simp [RowKit.intOf]; omega
    · obtain rfl : k = nb := by omega
      have hrows : rowsOf LB = rowsOf BS := by
        rw [List.take_of_length_le (by have := HNB.out; omega)] at hlb
        have e : ∀ X : List Blk, rowsOf X = (X.map Blk.rows).flatten := fun X => by simp [rowsOf, List.flatMap]
        rw [e, e, hlb]
      have hbody : MapB wr v LB := by
        refine ⟨?_, fun b hb9 => ⟨(hbl b hb9).1, (hbl b hb9).2.1⟩, hap, fun b hb9 r hr => ?_⟩
        · by_cases h0 : LB.length = 0
          · obtain rfl : LB = [] := List.eq_nil_of_length_eq_zero h0
            obtain ⟨hlen, ⟨ev, hn⟩ | ⟨g9, cap9, cur9, ev, hB9, hg9, hrest⟩⟩ := hov
            · exact .inl ⟨ev, rfl⟩
            · refine .inr ⟨g9, cap9, ev, ?_⟩
              obtain ⟨hnc, hcm, hcs, htake⟩ := hrest
              exact ⟨hnc, by unfold maxLen at hcm; omega, cur9, hg9, by omega, fun j u hj => (nomatch hj)⟩
          · obtain ⟨g9, cap9, ev, -, hat9⟩ := hov.part blk_size (by omega)
            exact .inr ⟨g9, cap9, ev, hat9⟩
        · have hr2 : r ∈ rowsOf BS := by rw [← hrows]; exact List.mem_flatMap.2 ⟨b, hb9, hr⟩
          obtain ⟨b2, hb2, hr2⟩ := List.mem_flatMap.1 hr2
          have h9 := HMI.out.body.row b2 hb2 r hr2
          exact ⟨h9.1.kept hb, h9.2⟩
      have hmap : MapIn wr B v LB := ⟨by rw [hrows, HN.out]; exact hq, hbody, by rw [hrows]; exact HMI.out.asc⟩
      have hft : ∀ j, foot B v LB j → w.heap.size ≤ j := by
        rintro j (rfl | hj | ⟨b, hb9, rfl⟩)
        · exact Nat.le_of_eq HBe.out
        · have h9 := (hov.lt j hj).1; have := HBe.out; omega
        · have h9 := (hbl b hb9).2.2; have := HBe.out; omega
      have HMP := Lib.hid hmap
      have HFT := Lib.hid hft
      have HRW := Lib.hid hrows
      have HB := Lib.hid hb
      clear hmap hft hrows hb hbody hov hlb hq hbl hap hlbl
      go_wp2
      go_ret
      exact ⟨B, v, LB, rfl, HMP.out, HRW.out, HB.out, HFT.out⟩
end Go.Proofs.Ytbpgfmcnpifmdaa
end

section
namespace Go.Proofs.Ytbpgfmcnpifmdaa
open Go.RowKit Go Go.Sort
set_option linter.unusedVariables false
set_option maxRecDepth 20000

/-- The blocks from one on, up to another one, are those of an older world. -/
def SameIn (lo : Nat) (X Y : World) : Prop := X.heap.size ≤ Y.heap.size ∧ ∀ q, lo ≤ q → q < X.heap.size → Y.heap[q]? = X.heap[q]?
theorem SameIn.refl (lo : Nat) (X : World) : SameIn lo X X := ⟨Nat.le_refl _, fun _ _ _ => rfl⟩
theorem SameIn.below {lo : Nat} {X W W' : World} (h : SameIn lo X W) (hb : Below W.heap.size W W') : SameIn lo X W' := ⟨Nat.le_trans h.1 hb.size, fun q h1 h2 => (hb.block q (by have := h.1; omega)).trans (h.2 q h1 h2)⟩
theorem SameIn.turn {lo : Nat} {X W W' : World} {F : Nat → Prop} (h : SameIn lo X W) (ht : Turn F W W') (hF : ∀ k, F k → k < lo ∨ X.heap.size ≤ k) : SameIn lo X W' :=
  ⟨Nat.le_trans h.1 ht.size, fun q h1 h2 => (ht.block q (by have := h.1; omega) (fun hf => by have := hF q hf; omega)).trans (h.2 q h1 h2)⟩
theorem OwnRs.same {X Y : World} {lo : Nat} {v : Value} {L : List Rw} (h : OwnRs X lo v L) (hs : SameIn lo X Y) : OwnRs Y lo v L :=
  ⟨h.row.of_block fun q hq => hs.2 q (h.row.lt q hq).1 (h.row.lt q hq).2, fun r hr => ⟨(h.own r hr).1.of_block fun q hq => hs.2 q ((h.own r hr).1.lt q hq).1 ((h.own r hr).1.lt q hq).2, (h.own r hr).2⟩, h.apart⟩
theorem OwnRs.mono {W : World} {B B' : Nat} {v : Value} {L : List Rw} (h : OwnRs W B v L) (hB : B' ≤ B) : OwnRs W B' v L := ⟨h.row.mono hB, fun r hr => ⟨(h.own r hr).1.mono hB, (h.own r hr).2⟩, h.apart⟩
theorem OwnRs.lies {W : World} {B : Nat} {a : Option Addr} {m c : Nat} {L : List Rw} (h : OwnRs W B (.slice a m c) L) (hm : L.length = m) : RwsAt W a m c L := by
  obtain ⟨a', c', e, hr⟩ := h.all
  injection e with e1 e2 e3
  subst hm
  rw [e1, e3]
  exact hr
/-- A map and its copy have nothing in common that is turned. -/
theorem Two.copy {W W' : World} {qa qb : Nat} {va vb : Value} {BA BB : List Blk} (h : MapIn W qa va BA) (hb : Below W.heap.size W W') (h2 : MapIn W' qb vb BB) (hr : rowsOf BB = rowsOf BA) (hf : ∀ k, foot qb vb BB k → W.heap.size ≤ k) : Two W' qa va BA qb vb BB := by
  have hc : ∀ k, cellB BB k ↔ cellB BA k := fun k => by rw [cellB_iff, cellB_iff, hr]
  exact ⟨h.below hb, h2, fun k hk => ⟨fun h3 => by have := h.lt (.inl hk); have := hf k h3; omega, fun h3 => h.kinds.2.2 k ((hc k).1 h3) hk⟩, fun k hk h3 => by have := h.lt (.inr h3); have := hf k hk; omega⟩
/-- The copy, behind some calls. -/
def ApIn (w1 X W : World) (qa : Nat) (va : Value) (BA : List Blk) (qb : Nat) (lo j : Nat) : Prop :=
  ∃ (vb : Value) (BB : List Blk), Two W qa va BA qb vb BB ∧ (rowsOf BB).length ≤ 1000 + j ∧ TwoAbove w1.heap.size qa va BA qb vb BB ∧ (∀ k, foot qb vb BB k → k < lo ∨ X.heap.size ≤ k) ∧ SameIn lo X W ∧ Below w1.heap.size w1 W
theorem ApIn.kept {w1 X W W' : World} {qa qb lo j : Nat} {va : Value} {BA : List Blk} (h : ApIn w1 X W qa va BA qb lo j) (hb : Below W.heap.size W W') : ApIn w1 X W' qa va BA qb lo j := by
  obtain ⟨vb, BB, h1, h2, h3, h4, h5, h6⟩ := h
  exact ⟨vb, BB, h1.below hb, h2, h3, h4, h5.below hb, h6.trans (hb.mono h6.size)⟩
theorem ApIn.step {w1 X W W' : World} {qa qb lo j : Nat} {va vb : Value} {BA BB : List Blk} {R : List Rp} (h1 : Two W qa va BA qb vb BB) (h3 : TwoAbove w1.heap.size qa va BA qb vb BB) (h4 : ∀ k, foot qb vb BB k → k < lo ∨ X.heap.size ≤ k) (h5 : SameIn lo X W) (h6 : Below w1.heap.size w1 W) (hd : MDone qb vb BB R W W') (hR : R.length ≤ 1000 + (j + 1)) : ApIn w1 X W' qa va BA qb lo (j + 1) := by
  obtain ⟨vb', BB', g1, g2, g3, g4, -⟩ := h1.swap.turn hd
  refine ⟨vb', BB', g1.swap, ?_, ⟨h3.1, fun k hk => (g4 k hk).elim (h3.2 k) (fun h => Nat.le_trans h6.size h)⟩, fun k hk => (g4 k hk).elim (h4 k) (fun h => .inr (Nat.le_trans h5.1 h)), h5.turn g3 h4, h6.trans (g3.below h6.size h3.2)⟩
  have h7 := congrArg List.length g2
  rw [List.length_map] at h7
  rw [h7]
  exact hR
theorem ApIn.set {w1 X W : World} {qa qb lo j : Nat} {va : Value} {BA : List Blk} (h : ApIn w1 X W qa va BA qb lo j) (hj : j ≤ 1000) {x : Option Addr} {m cap : Nat} {cs : List Cl} (hl : Cls W x m cap cs) (hm : m ≤ 1000000) (kk : List UInt8) :
    Calls Try.prog 17 #[.pointer (some ⟨qb, 0, none⟩), .agg #[.string (text kk), .slice x m cap]] W (fun e w' => (∃ v, e = .returned v) ∧ ApIn w1 X w' qa va BA qb lo (j + 1)) := by
  obtain ⟨vb, BB, h1, h2, h3, h4, h5, h6⟩ := h
  refine (msetr_c h1.b (by omega) hl hm kk).mono fun e w' ⟨he, hd⟩ => ⟨⟨_, he⟩, ApIn.step h1 h3 h4 h5 h6 hd ?_⟩
  have h8 := rowR_few ((rowsOf BB).map Rw.pr) (kk, cs)
  rw [List.length_map] at h8
  omega
theorem ApIn.drop {w1 X W : World} {qa qb lo j : Nat} {va : Value} {BA : List Blk} (h : ApIn w1 X W qa va BA qb lo j) (hj : j ≤ 1000) (kk : List UInt8) :
    Calls Try.prog 21 #[.pointer (some ⟨qb, 0, none⟩), .string (text kk)] W (fun e w' => (∃ v, e = .returned v) ∧ ApIn w1 X w' qa va BA qb lo (j + 1)) := by
  obtain ⟨vb, BB, h1, h2, h3, h4, h5, h6⟩ := h
  refine (mdrop_c h1.b (by omega) kk).mono fun e w' ⟨he, hd⟩ => ⟨⟨_, he⟩, ApIn.step h1 h3 h4 h5 h6 hd ?_⟩
  have h8 := List.length_filter_le (fun r : Rp => decide (r.1 ≠ kk)) ((rowsOf BB).map Rw.pr)
  rw [List.length_map] at h8
  omega
/-- The map, behind some drops. -/
def DrIn (w1 X W : World) (qa qb : Nat) (vb : Value) (BB : List Blk) (R : List Rp) (lo i : Nat) : Prop :=
  ∃ (va : Value) (BA : List Blk), Two W qa va BA qb vb BB ∧ (rowsOf BA).map Rw.pr = R.drop i ∧ (∀ k, foot qa va BA k → w1.heap.size ≤ k ∧ (k < lo ∨ X.heap.size ≤ k)) ∧ SameIn lo X W ∧ Below w1.heap.size w1 W
theorem DrIn.kept {w1 X W W' : World} {qa qb lo i : Nat} {vb : Value} {BB : List Blk} {R : List Rp} (h : DrIn w1 X W qa qb vb BB R lo i) (hb : Below W.heap.size W W') : DrIn w1 X W' qa qb vb BB R lo i := by
  obtain ⟨va, BA, h1, h2, h3, h4, h5⟩ := h
  exact ⟨va, BA, h1.below hb, h2, h3, h4.below hb, h5.trans (hb.mono h5.size)⟩
theorem drop_one9 {R : List Rp} (hasc : KAsc Op.bytesLess R) {i : Nat} (hi : i < R.length) : (R.drop i).filter (fun r => decide (r.1 ≠ (R.getD i ([], [])).1)) = R.drop (i + 1) := by
  have e : R.drop i = R.getD i ([], []) :: R.drop (i + 1) := by
    rw [List.getD_eq_getElem?_getD, List.getElem?_eq_getElem hi]
    exact List.drop_eq_getElem_cons hi
  have h1 : KAsc Op.bytesLess (R.drop i) := List.Pairwise.sublist (List.drop_sublist _ _) hasc
  rw [e] at h1 ⊢
  have h2 := List.pairwise_cons.1 h1
  rw [List.filter_cons, if_neg (by simp), filter_all]
  intro r hr
  refine decide_eq_true fun e2 => ?_
  have h3 := h2.1 r hr
  rw [e2, strictT.irr] at h3
  cases h3
theorem DrIn.drop {w1 X W : World} {qa qb lo i : Nat} {vb : Value} {BB : List Blk} {R : List Rp} (h : DrIn w1 X W qa qb vb BB R lo i) (hasc : KAsc Op.bytesLess R) (hR : R.length ≤ 1000) (hi : i < R.length) {kk : List UInt8} (hk : (R.getD i ([], [])).1 = kk) :
    Calls Try.prog 21 #[.pointer (some ⟨qa, 0, none⟩), .string (text kk)] W (fun e w' => (∃ v, e = .returned v) ∧ DrIn w1 X w' qa qb vb BB R lo (i + 1)) := by
  obtain ⟨va, BA, h1, h2, h3, h4, h5⟩ := h
  have hlen : (rowsOf BA).length ≤ 1000 := by
    have h6 := congrArg List.length h2
    rw [List.length_map, List.length_drop] at h6
    omega
  refine (mdrop_c h1.a (by omega) kk).mono fun e w' ⟨he, hd⟩ => ⟨⟨_, he⟩, ?_⟩
  obtain ⟨va', BA', g1, g2, g3, g4, -⟩ := h1.turn hd
  refine ⟨va', BA', g1, ?_, fun k hk => (g4 k hk).elim (h3 k) (fun h => ⟨Nat.le_trans h5.size h, .inr (Nat.le_trans h4.1 h)⟩), h4.turn g3 (fun k hk => (h3 k hk).2), h5.trans (g3.below h5.size fun k hk => (h3 k hk).1)⟩
  rw [g2, h2, ← hk]
  exact drop_one9 hasc hi
end Go.Proofs.Ytbpgfmcnpifmdaa
end

section
namespace Go.Proofs.Ytbpgfmcnpifmdaa
open Go.RowKit Go Go.Sort Go.Deep
set_option linter.unusedVariables false
set_option maxRecDepth 20000

set_option maxRecDepth 100000 in
set_option maxHeartbeats 12800000 in
theorem sapart_walk {w : World} {x y : Option Addr} {n cap n2 cap2 : Nat} {l lm : List Ac} (hl : ActsAt w x n cap l) (hs : ∀ q ∈ l, q.r.k.length ≤ 9223372036854775807 ∧ q.un.length ≤ 9223372036854775807 ∧ ∀ c ∈ q.r.cs, c.t.length ≤ 9223372036854775807)
    (hl2 : ActsAt w y n2 cap2 lm) (hs2 : ∀ q ∈ lm, q.r.k.length ≤ 9223372036854775807 ∧ q.un.length ≤ 9223372036854775807 ∧ ∀ c ∈ q.r.cs, c.t.length ≤ 9223372036854775807) :
    Calls Try.prog 6 #[.slice x n cap, .slice y n2 cap2] w (Tells (.bool true) w) := by
  have hle := hl.1.le
  have hmax := hl.1.max
  have hle2 := hl2.1.le
  have hmax2 := hl2.1.max
  have HLL := Lib.hid hl.1.len
  have HL := Lib.hid hl
  have HLI := Lib.hid (slight_c hl hs)
  have HLL2 := Lib.hid hl2.1.len
  have HL2 := Lib.hid hl2
  have HLI2 := Lib.hid (fun w1 (h : Below w.heap.size w w1) => slight_c (hl2.below h) hs2)
  clear hl hs hl2 hs2
  go_enter Try.func6, Try.ntmps6
  go_upto_region 3 with (first | (go_at_call 14; (with_reducible refine HLI.out.mono ?_); rintro e1 w1 ⟨b, rfl, hb, hb1⟩) | (go_at_call 14; (with_reducible refine (HLI2.out _ hb1).mono ?_); rintro e2 w2 ⟨b2, rfl, hb2, hb3⟩) | (go_at_call 15; (with_reducible refine (slives_c _).mono ?_); rintro e8 w8 ⟨rfl, hb8⟩))
  · go_ret
    exact ⟨rfl, (hb1.trans (hb3.mono hb1.size)).trans (hb8.mono (Nat.le_trans hb1.size hb3.size))⟩
  rotate_left
  · go_ret
    exact ⟨rfl, hb1.trans (hb8.mono hb1.size)⟩
  obtain ⟨h1000, hlight⟩ := hb (by simp_all)
  obtain ⟨h1002, hlight2⟩ := hb2 (by simp_all)
  have HLT := Lib.hid hlight
  have HLT2 := Lib.hid hlight2
  have HB1 := Lib.hid (hb1.trans (hb3.mono hb1.size))
  have hbt : b2 = true := by simp_all
  subst hbt
  clear hlight hlight2 hb hb1 hb2 hb3 HLI HLI2
  go_upto_region 6 with (go_at_call 13; (with_reducible refine (snew_c _).mono ?_); rintro e9 w9 ⟨rfl, rfl⟩)
  have hst := SetsIn.start (w := w2) l
  obtain ⟨W2, hW2⟩ : ∃ X, w2.alloc (.cells #[.bool true, .int .i64 0, .slice none 0 0] 57) = X := ⟨_, rfl⟩
  obtain ⟨q, hq⟩ : ∃ z, w2.heap.size = z := ⟨_, rfl⟩
  rw [hW2, hq] at hst
  simp only [hW2, hq]
  have HST := Lib.hid hst
  clear hst hW2 hq
  go_wp2
  go_loopw [29] (fun j wr => ∃ i, i ≤ n ∧ j = .int .i64 (i : Int) ∧ SetsIn w2 wr q l i) (fun j _ => n - (intOf j).toNat)
  case atStart => exact ⟨0, Nat.zero_le _, rfl, HST.out⟩
  case round =>
    clear HST
    obtain ⟨i, hi, rfl, hsi⟩ := hrel
    have hbw : Below w2.heap.size w2 wr := by obtain ⟨_, _, -, -, -, h⟩ := hsi; exact h
    have HSI := Lib.hid hsi
    clear hsi
    by_cases hlt : i < n
    · have hii : (i : Int) < (n : Int) := by omega
      have hic : (i : Int) < (cap : Int) := by omega
      obtain ⟨b, off, xa, ca, rfl, eu, hcl, hat⟩ := HL.out.place hlt
      have hbb := HB1.out.trans (hbw.mono HB1.out.size)
      obtain ⟨c0, c1, c2, c3, c4⟩ := hat _ hbb
      have hla := HLT.out (l.getD i Ac.zero) (by
        rw [List.getD_eq_getElem?_getD, List.getElem?_eq_getElem (by have := HLL.out; omega)]
        exact List.getElem_mem _)
      obtain ⟨A, hA⟩ : ∃ z, l.getD i Ac.zero = z := ⟨_, rfl⟩
      rw [hA] at c0 c1 c2 c3 c4 hla hcl eu
      obtain ⟨kd, ⟨rk, ru, cs⟩, au, an⟩ := A
      replace hla : cs.length ≤ 2000 := hla.2.2.1
      replace hcl : Cls w xa cs.length ca cs := hcl
      replace c0 : wr.cell? ⟨b, off + i * 5, none⟩ = some (.int .i64 kd) := c0
      replace c1 : wr.cell? ⟨b, off + i * 5 + 1, none⟩ = some (.string (text rk)) := c1
      replace c2 : wr.cell? ⟨b, off + i * 5 + 2, none⟩ = some (.slice xa cs.length ca) := c2
      replace c3 : wr.cell? ⟨b, off + i * 5 + 3, none⟩ = some (.string (text au)) := c3
      replace c4 : wr.cell? ⟨b, off + i * 5 + 4, none⟩ = some (.int .i64 an) := c4
      have he : ((l.getD i Ac.zero).r.k, (l.getD i Ac.zero).cs) = (rk, if kd = 4 then [(⟨0, 0, 0, 0, false, au, 0, 0⟩ : Cl)] else cs) := by rw [hA]; rfl
      obtain ⟨RC, hRC⟩ : ∃ z, (if kd = 4 then [(⟨0, 0, 0, 0, false, au, 0, 0⟩ : Cl)] else cs) = z := ⟨_, rfl⟩
      have hrl : RC.length ≤ 2000 := by
        rw [← hRC]
        split
        · show 1 ≤ 2000; omega
        · exact hla
      rw [hRC] at he
      have hz := heap_alloc_new wr (.cells #[.int .i64 kd, .string (text rk), .slice xa cs.length ca, .string (text au), .int .i64 an] 32)
      have hal := alloc_below wr (.cells #[.int .i64 kd, .string (text rk), .slice xa cs.length ca, .string (text au), .int .i64 an] 32)
      have HRW := Lib.hid (show Calls Try.prog 16 #[.agg #[.int .i64 kd, .string (text rk), .slice xa cs.length ca, .string (text au), .int .i64 an]] (wr.alloc (.cells #[.int .i64 kd, .string (text rk), .slice xa cs.length ca, .string (text au), .int .i64 an] 32)) _ from sarow_c (un := au) (hcl.below (hbb.trans (hal.mono hbb.size))) (by omega))
      rw [hRC] at HRW
      have HAL := Lib.hid hal
      have HE := Lib.hid he
      have HRL := Lib.hid hrl
      clear hA eu hat hcl hbb hal he hrl hRC hla
      go_upto_region 9 with (fail)
      obtain ⟨d0, d1, d2, d3, d4⟩ := actb_cells hz
      clear hz c0 c1 c2 c3 c4
      go_wp2_with (first | (go_at_call 16; (with_reducible refine HRW.out.mono ?_); rintro e3 w3 ⟨v3, rfl, ho3, hb3⟩; obtain ⟨a3, c3, rfl, hcl3⟩ := ho3.cls; have HSB := Lib.hid (SetsIn.set (HSI.out.kept (HAL.out.trans (hb3.mono HAL.out.size))) HLL.out hlt h1000 hcl3 (by have := HRL.out; omega) HE.out); clear ho3 hb3 hcl3) | (go_at_call 17; (with_reducible refine HSB.out.mono ?_); rintro e4 w4 ⟨⟨v4, rfl⟩, hs4, -⟩; have HS4 := Lib.hid hs4; clear hs4))
      go_roundw
      case rel => exact ⟨i + 1, by omega, by go_num, HS4.out⟩
      case measure => simp [intOf]; omega
    · obtain rfl : i = n := by omega
      obtain ⟨va, BA, hmi, hra, hfa, -⟩ := HSI.out
      rw [List.take_of_length_le (by have := HLL.out; omega)] at hra
      have hlr : (rowsOf BA).length ≤ 1000 := by
        have h5 := congrArg List.length hra
        rw [List.length_map] at h5
        rw [h5]
        exact Nat.le_trans (actsR_facts i l (by have := HLL.out; omega)).2.1 h1000
      have hasc : KAsc Op.bytesLess (actsR l) := (actsR_facts _ l rfl).1
      obtain ⟨R, hR⟩ : ∃ z, actsR l = z := ⟨_, rfl⟩
      rw [hR] at hra hasc
      have hRl : R.length ≤ 1000 := by
        have h5 := congrArg List.length hra
        rw [List.length_map] at h5
        omega
      have hsw : ∀ (W : World) (q' : Nat) (v' : Value) (B' : List Blk) (R' : List Rp), MapIn W q' v' B' → (rowsOf B').map Rw.pr = R' → R'.length ≤ 1000000 → Calls Try.prog 24 #[.pointer (some ⟨q', 0, none⟩), .string ⟨#[]⟩, .string ⟨#[]⟩, .int .i64 1000000] W (fun e w' => ∃ v L, e = .returned v ∧ OwnRs w' W.heap.size v L ∧ L.map Rw.pr = R' ∧ Below W.heap.size W w') := fun W q' v' B' R' hm he hn => by
        have h5 : Calls Try.prog 24 #[.pointer (some ⟨q', 0, none⟩), .string ⟨#[]⟩, .string ⟨#[]⟩, .int .i64 1000000] W (fun e w' => ∃ v L, e = .returned v ∧ OwnRs w' W.heap.size v L ∧ L.map Rw.pr = scanP ((rowsOf B').map Rw.pr) [] [] 1000000 ∧ Below W.heap.size W w') := mscanp_c hm (by rw [← he, List.length_map] at hn; exact hn) [] [] 1000000
        rw [he, scan_whole (by omega)] at h5
        exact h5
      have HSW := Lib.hid hsw
      have HASC := Lib.hid hasc
      have HCP := Lib.hid (mcopy_c hmi (by omega))
      have HMI := Lib.hid hmi
      have HRA := Lib.hid hra
      have HFA := Lib.hid hfa
      have HBW := Lib.hid hbw
      have HRL := Lib.hid hRl
      have HLR := Lib.hid hlr
      clear hmi hra hfa hbw hRl hlr hR hsw hasc HSI
      go_upto_region 12 with (go_at_call 30; (with_reducible refine HCP.out.mono ?_); rintro e3 w3 ⟨qb, vb, BB, rfl, hmb, hrb, hb3, hfb⟩)
      have HTW := Lib.hid (Two.copy HMI.out hb3 hmb hrb hfb)
      have HFB := Lib.hid hfb
      have HRB := Lib.hid (show (rowsOf BB).map Rw.pr = R by rw [hrb]; exact HRA.out)
      have HB3 := Lib.hid (HBW.out.trans (hb3.mono HBW.out.size))
      have HABV := Lib.hid (show TwoAbove w2.heap.size q va BA qb vb BB from ⟨HFA.out, fun k hk => Nat.le_trans HBW.out.size (hfb k hk)⟩)
      have HFAL := Lib.hid (fun k (hk : foot q va BA k) => Nat.lt_of_lt_of_le (HMI.out.lt (.inl hk)) hb3.size)
      have HFBL := Lib.hid (fun k (hk : foot qb vb BB k) => hmb.lt (.inl hk))
      clear hmb hrb hb3 hfb HCP HMI
      go_upto_region 13 with (go_at_call 24; (with_reducible refine (HSW.out _ _ _ _ _ HTW.out.a HRA.out (by have := HRL.out; omega)).mono ?_); rintro e4 w4 ⟨v4, L4, rfl, ho4, hl4, hb4⟩)
      have HTW4 := Lib.hid (HTW.out.below hb4)
      have HS34 := Lib.hid hb4.size
      have HB4 := Lib.hid (HB3.out.trans (hb4.mono HB3.out.size))
      obtain ⟨a4, c4, rfl, hrw4⟩ := ho4.all
      obtain ⟨m, hm⟩ : ∃ z, L4.length = z := ⟨_, rfl⟩
      have hRm : R.length = m := by rw [← hl4, List.length_map, hm]
      rw [hm] at hrw4 ho4 ⊢
      have hle4 := hrw4.1.le
      have hmax4 := hrw4.1.max
      have HO4 := Lib.hid ho4
      have HRW4 := Lib.hid hrw4
      have HL4 := Lib.hid hl4
      have HM := Lib.hid hm
      have HRM := Lib.hid hRm
      clear ho4 hrw4 hl4 hm hRm hb4
      go_upto_region 15 with (first
        | (go_at_call 24; (with_reducible refine (HSW.out _ _ _ _ _ HTW4.out.b HRB.out (by have := HRL.out; omega)).mono ?_); rintro e5 w5 ⟨v5, L5, rfl, ho5, hl5, hb5⟩; obtain ⟨a5, c5, rfl, hrw5⟩ := ho5.all; have HRW5 := Lib.hid hrw5; have HL5 := Lib.hid hl5; have HB5 := Lib.hid hb5; clear ho5 hl5 hb5 hrw5)
        | (go_at_call 26; (with_reducible refine (rall2_c HRW5.out (HRW4.out.below HB5.out)).mono ?_); rintro e6 w6 ⟨rfl, hb6⟩; rw [show decide (L5.map Rw.pr = L4.map Rw.pr) = true from decide_eq_true (HL5.out.trans HL4.out.symm)]; have HB6 := Lib.hid (HB5.out.trans (hb6.mono HB5.out.size)); clear hb6))
      have HO6 := Lib.hid (HO4.out.kept HB6.out)
      have HSZ3 := Lib.hid (Nat.le_trans HS34.out HB6.out.size)
      have hap : ApIn w2 w6 w6 q va BA qb w3.heap.size 0 := ⟨vb, BB, HTW4.out.below HB6.out, by
        have h5 := congrArg List.length HRB.out
        rw [List.length_map] at h5
        have := HRL.out
        omega, HABV.out, fun k hk => .inl (HFBL.out k hk), SameIn.refl _ _, HB4.out.trans (HB6.out.mono HB4.out.size)⟩
      have HAP := Lib.hid hap
      clear hap HTW HTW4 HO4 HRW4 HRW5 HL5 HB5 HB6 HRB HFB HFBL HB3 HB4 HABV
      go_wp2
      go_loopw [53] (fun j wr => ∃ i, i ≤ n2 ∧ j = .int .i64 (i : Int) ∧ ApIn w2 w6 wr q va BA qb w3.heap.size i) (fun j _ => n2 - (intOf j).toNat)
      case atStart => exact ⟨0, Nat.zero_le _, rfl, HAP.out⟩
      case round =>
        clear HAP
        obtain ⟨i, hi, rfl, hsi⟩ := hrel
        have hbw : Below w2.heap.size w2 wr := by obtain ⟨_, _, -, -, -, -, -, h⟩ := hsi; exact h
        have HSI := Lib.hid hsi
        clear hsi
        by_cases hlt : i < n2
        · have hii : (i : Int) < (n2 : Int) := by omega
          have hic : (i : Int) < (cap2 : Int) := by omega
          obtain ⟨b, off, xa, ca, rfl, eu, hcl, hat⟩ := HL2.out.place hlt
          have hbb := HB1.out.trans (hbw.mono HB1.out.size)
          obtain ⟨c0, c1, c2, c3, c4⟩ := hat _ hbb
          have hla := HLT2.out (lm.getD i Ac.zero) (by
            rw [List.getD_eq_getElem?_getD, List.getElem?_eq_getElem (by have := HLL2.out; omega)]
            exact List.getElem_mem _)
          obtain ⟨A, hA⟩ : ∃ z, lm.getD i Ac.zero = z := ⟨_, rfl⟩
          rw [hA] at c0 c1 c2 c3 c4 hla hcl eu
          obtain ⟨kd, ⟨rk, ru, cs⟩, au, an⟩ := A
          replace hla : cs.length ≤ 2000 := hla.2.2.1
          replace hcl : Cls w xa cs.length ca cs := hcl
          replace c0 : wr.cell? ⟨b, off + i * 5, none⟩ = some (.int .i64 kd) := c0
          replace c1 : wr.cell? ⟨b, off + i * 5 + 1, none⟩ = some (.string (text rk)) := c1
          replace c2 : wr.cell? ⟨b, off + i * 5 + 2, none⟩ = some (.slice xa cs.length ca) := c2
          replace c3 : wr.cell? ⟨b, off + i * 5 + 3, none⟩ = some (.string (text au)) := c3
          replace c4 : wr.cell? ⟨b, off + i * 5 + 4, none⟩ = some (.int .i64 an) := c4
          obtain ⟨RC, hRC⟩ : ∃ z, (if kd = 4 then [(⟨0, 0, 0, 0, false, au, 0, 0⟩ : Cl)] else cs) = z := ⟨_, rfl⟩
          have hrl : RC.length ≤ 2000 := by
            rw [← hRC]
            split
            · show 1 ≤ 2000; omega
            · exact hla
          have hz := heap_alloc_new wr (.cells #[.int .i64 kd, .string (text rk), .slice xa cs.length ca, .string (text au), .int .i64 an] 32)
          have hal := alloc_below wr (.cells #[.int .i64 kd, .string (text rk), .slice xa cs.length ca, .string (text au), .int .i64 an] 32)
          have HRW := Lib.hid (show Calls Try.prog 16 #[.agg #[.int .i64 kd, .string (text rk), .slice xa cs.length ca, .string (text au), .int .i64 an]] (wr.alloc (.cells #[.int .i64 kd, .string (text rk), .slice xa cs.length ca, .string (text au), .int .i64 an] 32)) _ from sarow_c (un := au) (hcl.below (hbb.trans (hal.mono hbb.size))) (by omega))
          rw [hRC] at HRW
          have HAL := Lib.hid hal
          have HRL2 := Lib.hid hrl
          clear hA eu hat hcl hbb hal hrl hRC hla
          go_upto_region 18 with (fail)
          obtain ⟨d0, d1, d2, d3, d4⟩ := actb_cells hz
          clear hz c0 c1 c2 c3 c4
          by_cases hk : kd = 1
          · subst hk
            have HDR := Lib.hid ((HSI.out.kept HAL.out).drop (by omega) rk)
            go_wp2_with (go_at_call 21; (with_reducible refine HDR.out.mono ?_); rintro e4 w4 ⟨⟨v4, rfl⟩, hs4⟩; have HS4 := Lib.hid hs4; clear hs4)
            go_roundw
            case rel => exact ⟨i + 1, by omega, by go_num, HS4.out⟩
            case measure => simp [intOf]; omega
          · go_wp2_with (first | (go_at_call 16; (with_reducible refine HRW.out.mono ?_); rintro e3 w3 ⟨v3, rfl, ho3, hb3⟩; obtain ⟨a3, c3, rfl, hcl3⟩ := ho3.cls; have HSB := Lib.hid ((HSI.out.kept (HAL.out.trans (hb3.mono HAL.out.size))).set (by omega) hcl3 (by have := HRL2.out; omega) rk); clear ho3 hb3 hcl3) | (go_at_call 17; (with_reducible refine HSB.out.mono ?_); rintro e4 w4 ⟨⟨v4, rfl⟩, hs4⟩; have HS4 := Lib.hid hs4; clear hs4))
            go_roundw
            case rel => exact ⟨i + 1, by omega, by go_num, HS4.out⟩
            case measure => simp [intOf]; omega
        · obtain rfl : i = n2 := by omega
          obtain ⟨vc, BC, htw, hbc, habv, hfc, hsm, -⟩ := HSI.out
          have HTC := Lib.hid htw
          have HBC := Lib.hid hbc
          have HABC := Lib.hid habv
          have HSM := Lib.hid hsm
          have HWC := Lib.hid hbw
          have HWS := Lib.hid (HO6.out.same hsm)
          have HFA3 := Lib.hid (fun k (hk : foot q va BA k) => And.intro (HFA.out k hk) (HFAL.out k hk))
          clear htw hbc habv hfc hsm hbw HSI HO6 HFAL HFA
          go_upto_region 24 with (first
            | (go_at_call 24; (with_reducible refine (HSW.out _ _ _ _ _ HTC.out.a HRA.out (by have := HRL.out; omega)).mono ?_); rintro e5 w5 ⟨v5, L5, rfl, ho5, hl5, hb5⟩; obtain ⟨a5, c5, rfl, hrw5⟩ := ho5.all; have HRW5 := Lib.hid hrw5; have HL5 := Lib.hid hl5; have HB5 := Lib.hid hb5; clear ho5 hl5 hb5 hrw5)
            | (go_at_call 26; (with_reducible refine (rall2_c HRW5.out ((HWS.out.kept HB5.out).lies HM.out)).mono ?_); rintro e6 w7 ⟨rfl, hb6⟩; rw [show decide (L5.map Rw.pr = L4.map Rw.pr) = true from decide_eq_true (HL5.out.trans HL4.out.symm)]; have HB7 := Lib.hid (HB5.out.trans (hb6.mono HB5.out.size)); clear hb6))
          have HTD := Lib.hid (HTC.out.below HB7.out)
          have HWD := Lib.hid (HWC.out.trans (HB7.out.mono HWC.out.size))
          have HWS7 := Lib.hid (HWS.out.kept HB7.out)
          have HSZ3 := Lib.hid (Nat.le_trans HSZ3.out (Nat.le_trans HSM.out.1 HB7.out.size))
          clear HRW5 HL5 HB5 HB7 HTC HWC HWS HSM
          go_upto_region 25 with (go_at_call 24; (with_reducible refine (HSW.out _ _ _ _ _ HTD.out.b rfl (by have := HBC.out; rw [List.length_map]; omega)).mono ?_); rintro e9 w9 ⟨v9, L9, rfl, ho9, hl9, hb9⟩)
          obtain ⟨a9, c9, rfl, -⟩ := ho9.all
          obtain ⟨m9, hm9⟩ : ∃ z, L9.length = z := ⟨_, rfl⟩
          rw [hm9] at ho9 ⊢
          have HTE := Lib.hid (HTD.out.below hb9)
          have HWE := Lib.hid (HWD.out.trans (hb9.mono HWD.out.size))
          have HWS9 := Lib.hid (HWS7.out.kept hb9)
          have HO9 := Lib.hid ho9
          have HL9 := Lib.hid hl9
          have HM9 := Lib.hid hm9
          have hdr : DrIn w2 w9 w9 q qb vc BC R w3.heap.size 0 := ⟨va, BA, HTE.out, HRA.out, fun k hk => ⟨(HFA3.out k hk).1, .inl (HFA3.out k hk).2⟩, SameIn.refl _ _, HWE.out⟩
          have HDR := Lib.hid hdr
          have HO9R := Lib.hid (ho9.mono HSZ3.out)
          clear hdr ho9 hl9 hm9 hb9 HTD HWD HWS7
          go_wp2
          go_loopw [79] (fun j wr => ∃ i, i ≤ m ∧ j = .int .i64 (i : Int) ∧ DrIn w2 w9 wr q qb vc BC R w3.heap.size i) (fun j _ => m - (intOf j).toNat)
          case atStart => exact ⟨0, Nat.zero_le _, rfl, HDR.out⟩
          case round =>
            clear HDR
            obtain ⟨i3, hi3, rfl, hdi⟩ := hrel
            have hsm9 : SameIn w3.heap.size w9 wr := by obtain ⟨_, _, -, -, -, h, -⟩ := hdi; exact h
            have HDI := Lib.hid hdi
            have HWSr := Lib.hid (HWS9.out.same hsm9)
            by_cases hlt3 : i3 < m
            · have hii : (i3 : Int) < (m : Int) := by omega
              have hic : (i3 : Int) < (c4 : Int) := by omega
              obtain ⟨b4, off4, x5, n5, c5, rfl, -, -, -, hat⟩ := (HWSr.out.lies HM.out).place hlt3
              obtain ⟨c0, c1⟩ := hat _ (Below.refl _ _)
              have hkey : (R.getD i3 ([], [])).1 = (L4.getD i3 Rw.zero).k := by
                rw [← HL4.out, List.getD_eq_getElem?_getD, List.getElem?_map, List.getD_eq_getElem?_getD, List.getElem?_eq_getElem (by have := HM.out; omega)]
                rfl
              obtain ⟨tk, htk⟩ : ∃ z, (L4.getD i3 Rw.zero).k = z := ⟨_, rfl⟩
              rw [htk] at c0 hkey
              have hz := heap_alloc_new wr (.cells #[.string (text tk), .slice x5 n5 c5] 30)
              have hal := alloc_below wr (.cells #[.string (text tk), .slice x5 n5 c5] 30)
              have HDP := Lib.hid ((HDI.out.kept hal).drop HASC.out (by have := HRL.out; omega) (by have := HRM.out; omega) hkey)
              clear hat hkey htk hal hdi hsm9
              go_upto_region 28 with (fail)
              obtain ⟨z0, z1, -⟩ := row_cells hz
              clear hz c0 c1
              go_wp2_with (go_at_call 21; (with_reducible refine HDP.out.mono ?_); rintro e4 w4 ⟨⟨v4, rfl⟩, hs4⟩; have HS4 := Lib.hid hs4; clear hs4)
              go_roundw
              case rel => exact ⟨i3 + 1, by omega, by go_num, HS4.out⟩
              case measure => simp [intOf]; omega
            · obtain rfl : i3 = m := by omega
              obtain ⟨vd, BD, htd, hrd, -, -, hbd⟩ := hdi
              rw [List.drop_of_length_le (by have := HRM.out; omega)] at hrd
              have hn0 : (rowsOf BD).length = 0 := by
                have h5 := congrArg List.length hrd
                rw [List.length_map] at h5
                exact h5
              have hn9 : (rowsOf BC).length = m9 := by
                have h5 := congrArg List.length HL9.out
                rw [List.length_map, List.length_map, HM9.out] at h5
                exact h5.symm
              have hha := htd.a.head
              rw [hn0] at hha
              have hhc := htd.b.head
              rw [hn9] at hhc
              have HHA := Lib.hid (mlen_c hha)
              have HHC := Lib.hid (mlen_c hhc)
              have HTZ := Lib.hid htd
              have HBD := Lib.hid (HB1.out.trans (hbd.mono HB1.out.size))
              have HO9r := Lib.hid (HO9R.out.same hsm9)
              clear hsm9 htd hrd hn0 hha hhc hbd
              go_wp2_with (first
                | (go_at_call 28; first | ((with_reducible refine HHA.out.mono ?_); rintro e5 w5 ⟨rfl, rfl⟩) | ((with_reducible refine HHC.out.mono ?_); rintro e5 w5 ⟨rfl, rfl⟩))
                | (go_at_call 24; (with_reducible refine (HSW.out _ _ _ _ _ HTZ.out.b rfl (by have := HBC.out; rw [List.length_map]; omega)).mono ?_); rintro e5 w5 ⟨v5, L5, rfl, ho5, hl5, hb5⟩; obtain ⟨a5, c5, rfl, hrw5⟩ := ho5.all; have HRW5 := Lib.hid hrw5; have HL5 := Lib.hid hl5; have HB5 := Lib.hid hb5; clear ho5 hl5 hb5 hrw5)
                | (go_at_call 26; (with_reducible refine (rall2_c HRW5.out ((HO9r.out.kept HB5.out).lies HM9.out)).mono ?_); rintro e6 w6 ⟨rfl, hb6⟩; rw [show decide (L5.map Rw.pr = L9.map Rw.pr) = true from decide_eq_true (HL5.out.trans HL9.out.symm)]; have HB6 := Lib.hid (HB5.out.trans (hb6.mono HB5.out.size)); clear hb6)
                | (go_at_call 15; (with_reducible refine (slives_c _).mono ?_); rintro e8 w8 ⟨rfl, hb8⟩; have HB8 := Lib.hid (HB6.out.trans (hb8.mono HB6.out.size)); clear hb8))
              go_ret
              exact ⟨rfl, HBD.out.trans (HB8.out.mono HBD.out.size)⟩
end Go.Proofs.Ytbpgfmcnpifmdaa
end

