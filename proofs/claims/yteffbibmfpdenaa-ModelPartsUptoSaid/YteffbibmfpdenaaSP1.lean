/-
  Merged: A2 A3 AQ AR AS AT AU AV.
-/
import Derived.Deep.QuietTactic
import Derived.StillTail
import Derived.Lib.QuietBelow
import Derived.Test.YteffbibmfpdenaaRows
import Derived.WalkKit
import Derived.Lib.Hide
import Derived.BigQuiet
import Derived.BigRegion
import Derived.Deep.Cut
import Derived.Deep.MidRow
import Derived.Great.BuildSlice
import Derived.Outline
import Derived.OwnWalk
import Derived.Laws.Rows
import Derived.ChangeKeysEq
import Derived.Laws.StructEq
import Derived.WalkSpells
import Derived.WalkLawsBesides
import Derived.Laws.CopyOwn
import Derived.WalkSmall
import Derived.Lib.LaidTab
import Derived.Deep.RegionWith
import Derived.Lib.MinMax
import Derived.WideShapes
import Derived.ChangeSame
import Derived.OpenShut
import Derived.Deep.Slices
import Derived.Deep.AppendSrc
import Derived.Lib.AppendZerosOnto
import Derived.Lib.SliceRun
import Derived.Lib.Walk
import Derived.Lib.OthersKept
import Derived.Laws.RangeAny
import Derived.Maps.OwnOps
import Derived.Maps.Views
import Derived.ChangeSlices
import Derived.ChangeArms
import Derived.Deep.DeepAppendWide
import Derived.OrdersIn
import Derived.TacticsIn
import Derived.RangeFuncNested
import Derived.RangeFuncBound
import Derived.RangeFuncCalls
import Derived.RangeFuncLeaves
import Derived.Maps.AppendAt
import Derived.Shelf.Abstract
import Derived.OwnWalkIn
import Derived.TacticsInMore
import Derived.LoopNIn
import Derived.LoopIn
import Derived.Test.YteffbibmfpdenaaSM5

section
namespace Go.Proofs.Yteffbibmfpdenaa
open Go.RowKit Go Go.Sort
set_option linter.unusedVariables false
set_option maxRecDepth 20000

theorem m_inv {gs : List Grp} {R : List Rp} (h : mgoodS gs R = 0) : pgoodS gs = 0 ∧ ∀ k, k < R.length → mAt gs R k = 0 := by
  unfold mgoodS at h
  by_cases hp : pgoodS gs = 0
  · refine ⟨hp, fun k hk => ?_⟩
    rw [if_neg (not_not_intro hp)] at h
    cases hf : ((List.range R.length).map (mAt gs R)).find? (fun e => decide (e ≠ 0)) with
    | none =>
      have := List.find?_eq_none.1 hf (mAt gs R k) (List.mem_map.2 ⟨k, List.mem_range.2 hk, rfl⟩)
      simpa using this
    | some e =>
      rw [hf] at h
      have := List.find?_some hf
      simp only [Option.getD_some] at h
      rw [h] at this
      simp at this
  · rw [if_pos hp] at h; exact absurd h hp
theorem asc_of_next {R : List Rp} (h : ∀ i, i + 1 < R.length → Op.bytesLess (R.getD i ([], [])).1 (R.getD (i + 1) ([], [])).1 = true) : KAsc Op.bytesLess R := by
  unfold KAsc
  rw [List.pairwise_iff_getElem]
  have g : ∀ i (hi : i < R.length), R.getD i ([], []) = R[i] := fun i hi => by rw [List.getD_eq_getElem?_getD, List.getElem?_eq_getElem hi]; rfl
  have key : ∀ d i, i + d + 1 < R.length → Op.bytesLess (R.getD i ([], [])).1 (R.getD (i + d + 1) ([], [])).1 = true := by
    intro d
    induction d with
    | zero => exact fun i hi => h i hi
    | succ d ih => exact fun i hi => strictT.tr _ _ _ (ih i (by omega)) (h (i + d + 1) (by omega))
  intro i j hi hj hij
  have := key (j - i - 1) i (by omega)
  rw [show i + (j - i - 1) + 1 = j by omega, g i hi, g j hj] at this
  exact this
theorem next_of_asc {R : List Rp} (h : KAsc Op.bytesLess R) {i : Nat} (hi : i + 1 < R.length) : Op.bytesLess (R.getD i ([], [])).1 (R.getD (i + 1) ([], [])).1 = true := by
  have hp := List.pairwise_iff_getElem.1 h i (i + 1) (by omega) hi (by omega)
  rw [List.getD_eq_getElem?_getD, List.getD_eq_getElem?_getD, List.getElem?_eq_getElem (show i < _ by omega), List.getElem?_eq_getElem hi]
  exact hp
theorem mgood_iff {gs : List Grp} {R : List Rp} : mgoodS gs R = 0 ↔ IsSt gs R := by
  have g : ∀ i (hi : i < R.length), R.getD i ([], []) = R[i] := fun i hi => by rw [List.getD_eq_getElem?_getD, List.getElem?_eq_getElem hi]; rfl
  constructor
  · intro h
    obtain ⟨hp, ha⟩ := m_inv h
    refine ⟨hp, asc_of_next fun i hi => ?_, fun r hr => ?_, fun r hr => ?_⟩
    · exact (mAt_zero.1 (ha (i + 1) hi)).2.2 (by omega)
    · obtain ⟨i, hi, rfl⟩ := List.getElem_of_mem hr
      have := (mAt_zero.1 (ha i hi)).1
      rwa [g i hi] at this
    · obtain ⟨i, hi, rfl⟩ := List.getElem_of_mem hr
      have := (mAt_zero.1 (ha i hi)).2.1
      rwa [g i hi] at this
  · intro h
    refine m_yes h.pol fun i hi => mAt_zero.2 ⟨?_, ?_, fun h0 => ?_⟩
    · rw [g i hi]; exact h.good _ (List.getElem_mem hi)
    · rw [g i hi]; exact h.bare _ (List.getElem_mem hi)
    · have := next_of_asc h.asc (i := i - 1) (by omega)
      rwa [show i - 1 + 1 = i by omega] at this
end Go.Proofs.Yteffbibmfpdenaa
end

section
namespace Go.Proofs.Yteffbibmfpdenaa
open Go.RowKit Go Go.Sort
set_option linter.unusedVariables false
set_option maxRecDepth 20000

/-- P13.5: the state of two lists is the merge of theirs, and each is within it. -/
theorem st_parts {gs : List Grp} {cs ds : List Chg} (h1 : (stS gs cs).2 = 0) (h2 : (stS gs ds).2 = 0) : (stS gs (cs ++ ds)).2 = 0 ∧ mrg Op.bytesLess opC (stS gs cs).1 (stS gs ds).1 = (stS gs (cs ++ ds)).1 ∧
    mrg Op.bytesLess opC (stS gs cs).1 (stS gs (cs ++ ds)).1 = (stS gs (cs ++ ds)).1 ∧ mrg Op.bytesLess opC (stS gs ds).1 (stS gs (cs ++ ds)).1 = (stS gs (cs ++ ds)).1 := by
  obtain ⟨hp, ha⟩ := st_inv h1
  obtain ⟨-, hb⟩ := st_inv h2
  have hab : ∀ c ∈ cs ++ ds, c.err gs = 0 := fun c hc => (List.mem_append.1 hc).elim (ha c) (hb c)
  have h3 : (stS gs (cs ++ ds)).2 = 0 := by rw [st_ok hp hab]
  have s1 := st_st h1
  have s2 := st_st h2
  have s3 := st_st h3
  have l3 : ∀ k, look (stS gs (cs ++ ds)).1 k = jn opC (look (stS gs cs).1 k) (look (stS gs ds).1 k) := fun k => by
    rw [st_look hp hab, st_look hp ha, st_look hp hb, List.map_append, looks_append (aciC gs k) (chg_og hb k) (chg_og ha k)]
  have g1 : ∀ k, OG (fun u => rgoodS gs k u = 0) (look (stS gs cs).1 k) := fun k c hc => s1.good _ (look_mem hc)
  have g2 : ∀ k, OG (fun u => rgoodS gs k u = 0) (look (stS gs ds).1 k) := fun k c hc => s2.good _ (look_mem hc)
  refine ⟨h3, look_ext strictT (mrg_asc strictT opC _ _ _ (Nat.le_refl _) s1.asc s2.asc) s3.asc fun k => ?_, look_ext strictT (mrg_asc strictT opC _ _ _ (Nat.le_refl _) s1.asc s3.asc) s3.asc fun k => ?_, look_ext strictT (mrg_asc strictT opC _ _ _ (Nat.le_refl _) s2.asc s3.asc) s3.asc fun k => ?_⟩
  · rw [mrg_look strictT opC k _ _ _ (Nat.le_refl _) s1.asc s2.asc, l3]
  · rw [mrg_look strictT opC k _ _ _ (Nat.le_refl _) s1.asc s3.asc, l3, ← jn_assoc (aciC gs k) (g1 k) (g1 k) (g2 k), jn_self (aciC gs k) (g1 k)]
  · rw [mrg_look strictT opC k _ _ _ (Nat.le_refl _) s2.asc s3.asc, l3, jn_comm (aciC gs k) (g1 k) (g2 k), ← jn_assoc (aciC gs k) (g2 k) (g2 k) (g1 k), jn_self (aciC gs k) (g2 k)]
end Go.Proofs.Yteffbibmfpdenaa
end

section
namespace Go.Proofs.Yteffbibmfpdenaa
open Go.RowKit Go Go.Sort
set_option linter.unusedVariables false
set_option maxRecDepth 20000

instance : DecidableEq Cl := fun x y => if h : sameC x y = true then isTrue ((same_iff x y).1 h) else isFalse fun e => h ((same_iff x y).2 e)
theorem list_ext_getD {α : Type} {z : α} {a b : List α} (hl : a.length = b.length) (h : ∀ j, j < a.length → a.getD j z = b.getD j z) : a = b := by
  apply List.ext_getElem hl
  intro j h1 h2
  have := h j h1
  rwa [List.getD_eq_getElem?_getD, List.getD_eq_getElem?_getD, List.getElem?_eq_getElem h1, List.getElem?_eq_getElem h2] at this
set_option maxRecDepth 100000 in
set_option maxHeartbeats 6400000 in
theorem eqcells_c {w : World} {a b : Option Addr} {m ca m2 cb : Nat} {la lb : List Cl} (ha : Cls w a m ca la) (hb : Cls w b m2 cb lb) :
    Calls Try.prog 98 #[.slice a m ca, .slice b m2 cb] w (Tells (.bool (decide (la = lb))) w) := by
  have hal := ha.len
  have hale := ha.le
  have hamx := ha.max
  have hbl := hb.len
  have hble := hb.le
  have hbmx := hb.max
  by_cases hm : m = m2
  · subst hm
    have HCA := Lib.hid ha
    have HCB := Lib.hid hb
    have HAL := Lib.hid hal
    have HBL := Lib.hid hbl
    clear ha hb hal hbl
    have hmi : (m != m) = false := by simp
    go_enter Try.func98, Try.ntmps98
    go_upto_region 4 with (fail)
    go_loopw [13] (fun i wr => ∃ k : Nat, k ≤ m ∧ i = .int .i64 (k : Int) ∧ (∀ j, j < k → la.getD j Cl.zero = lb.getD j Cl.zero) ∧ Below w.heap.size w wr) (fun i _ => m - (intOf i).toNat)
    case atStart => exact ⟨0, by omega, rfl, fun j hj => by omega, Below.refl _ _⟩
    case round =>
      obtain ⟨k, hk, rfl, he, hB⟩ := hrel
      have HE := Lib.hid he
      have HB := Lib.hid hB
      clear he hB
      by_cases hkm : k < m
      · have hki : (k : Int) < (m : Int) := by omega
        have hkc : (k : Int) < (ca : Int) := by omega
        have hkc2 : (k : Int) < (cb : Int) := by omega
        obtain ⟨ba, offa, rfl, hata⟩ := HCA.out.at hkm
        obtain ⟨bb, offb, rfl, hatb⟩ := HCB.out.at hkm
        obtain ⟨x, hx⟩ : ∃ x, la.getD k Cl.zero = x := ⟨_, rfl⟩
        obtain ⟨y, hy⟩ : ∃ y, lb.getD k Cl.zero = y := ⟨_, rfl⟩
        rw [hx] at hata
        rw [hy] at hatb
        have HX := Lib.hid hx
        have HY := Lib.hid hy
        clear hx hy
        obtain ⟨n1, s1, a1, b1, g1, t1, d1, e1⟩ := x
        obtain ⟨n2, s2, a2, b2, g2, t2, d2, e2⟩ := y
        obtain ⟨C, hC⟩ : ∃ z, sameC ⟨n1, s1, a1, b1, g1, t1, d1, e1⟩ ⟨n2, s2, a2, b2, g2, t2, d2, e2⟩ = z := ⟨_, rfl⟩
        have hcn := cell_neb n1 s1 a1 b1 g1 t1 d1 e1 n2 s2 a2 b2 g2 t2 d2 e2 C hC
        have hceg := cell_eqg
        have HC := Lib.hid hC
        have HA := Lib.hid (fun W (h : Below wr.heap.size wr W) => hata W (HB.out.trans (h.mono HB.out.size)))
        have HB8 := Lib.hid (fun W (h : Below wr.heap.size wr W) => hatb W (HB.out.trans (h.mono HB.out.size)))
        clear hata hatb hC
        go_upto_region 6 with (fail)
        refine wp_region_flow [none, none, none, none, none, none, none, none, none, none, none, none, none, none, none, none, some 0, some 1, some 2, some 3, some 4, some 5, some 6, some 7, some 8, none] (fun i => [u16, u17, u18, u19, u20, u21, u22, u23, u24].getD i undef) [(fun v _ => v = .slice (some ⟨ba, offa, none⟩) m ca), (fun v _ => v = .int .i64 (k : Int)), (fun v _ => v = .pointer (some ⟨ba, offa + k * 8, none⟩)), (fun v _ => v = .agg #[.int .i64 n1, .int .i64 s1, .int .i64 a1, .int .i64 b1, .bool g1, .string (text t1), .int .i64 d1, .int .i64 e1]), (fun v _ => v = .slice (some ⟨bb, offb, none⟩) m cb), (fun v _ => v = .int .i64 (k : Int)), (fun v _ => v = .pointer (some ⟨bb, offb + k * 8, none⟩)), (fun v _ => v = .agg #[.int .i64 n2, .int .i64 s2, .int .i64 a2, .int .i64 b2, .bool g2, .string (text t2), .int .i64 d2, .int .i64 e2]), (fun v _ => v = .bool (!C))] (by kernel_rfl) (by kernel_rfl) rfl rfl rfl ?_ ?_ ?_
        · intro g hg v X Y hX hY hv
          simp only [List.mem_cons, List.not_mem_nil, or_false] at hg
          rcases hg with rfl | rfl | rfl | rfl | rfl | rfl | rfl | rfl | rfl
          all_goals first
            | exact hv
            | exact hv.kept hY
        · simp only [flowOps, and_true]
          refine ⟨?_, ?_, ?_, ?_, ?_, ?_, ?_, ?_, ?_⟩
          · intro xs W hW hn
            simp only [flowAct, List.zipWith_cons_cons, List.zipWith_nil_left]
            go_wp2_with (fail)
            exact ⟨rfl, _, rfl, Below.refl _ _, rfl⟩
          · intro xs W hW hn
            simp only [flowAct, List.zipWith_cons_cons, List.zipWith_nil_left]
            go_wp2_with (fail)
            exact ⟨rfl, _, rfl, Below.refl _ _, rfl⟩
          · intro xs W hW hn
            simp [flowNeeds, Region.binds] at hn
            simp only [flowAct, List.zipWith_cons_cons, List.zipWith_nil_left]
            try simp only [hn]
            go_wp2_with (fail)
            exact ⟨rfl, _, rfl, Below.refl _ _, rfl⟩
          · intro xs W hW hn
            obtain ⟨p0, p1, p2, p3, p4, p5, p6, p7⟩ := HA.out W hW
            simp [flowNeeds, Region.binds] at hn
            simp only [flowAct, List.zipWith_cons_cons, List.zipWith_nil_left]
            try simp only [hn]
            go_wp2_with (fail)
            exact ⟨rfl, _, rfl, Below.refl _ _, rfl⟩
          · intro xs W hW hn
            simp only [flowAct, List.zipWith_cons_cons, List.zipWith_nil_left]
            go_wp2_with (fail)
            exact ⟨rfl, _, rfl, Below.refl _ _, rfl⟩
          · intro xs W hW hn
            simp only [flowAct, List.zipWith_cons_cons, List.zipWith_nil_left]
            go_wp2_with (fail)
            exact ⟨rfl, _, rfl, Below.refl _ _, rfl⟩
          · intro xs W hW hn
            simp [flowNeeds, Region.binds] at hn
            simp only [flowAct, List.zipWith_cons_cons, List.zipWith_nil_left]
            try simp only [hn]
            go_wp2_with (fail)
            exact ⟨rfl, _, rfl, Below.refl _ _, rfl⟩
          · intro xs W hW hn
            obtain ⟨q0, q1, q2, q3, q4, q5, q6, q7⟩ := HB8.out W hW
            simp [flowNeeds, Region.binds] at hn
            simp only [flowAct, List.zipWith_cons_cons, List.zipWith_nil_left]
            try simp only [hn]
            go_wp2_with (fail)
            exact ⟨rfl, _, rfl, Below.refl _ _, rfl⟩
          · intro xs W hW hn
            simp [flowNeeds, Region.binds] at hn
            simp only [flowAct, List.zipWith_cons_cons, List.zipWith_nil_left]
            try simp only [hn]
            go_wp2_with (fail)
            exact ⟨rfl, _, rfl, Below.refl _ _, rfl⟩
        · intro xs W hW hall
          simp only [flowAll, and_true, Nat.zero_add, Nat.reduceAdd] at hall
          obtain ⟨-, -, -, -, -, -, -, -, e8⟩ := hall
          simp only [flowAct, List.zipWith_cons_cons, List.zipWith_nil_left]
          simp only [e8]
          have HB5 := Lib.hid (HB.out.trans (hW.mono HB.out.size))
          clear hW e8 HA HB8 hcn hceg
          cases C with
          | true =>
            have HCT := Lib.hid ((same_iff _ _).1 HC.out)
            go_wp2
            go_roundw
            case rel =>
              refine ⟨k + 1, by omega, by go_num, fun j hj => ?_, HB5.out⟩
              by_cases e : j = k
              · subst e; rw [HX.out, HY.out]; exact HCT.out
              · exact HE.out j (by omega)
            case measure => simp [intOf]; omega
          | false =>
            have HNE := Lib.hid (show ¬ la = lb from fun e => by
              subst e
              have h1 := HC.out
              rw [HX.out] at HY
              have h2 := HY.out
              rw [h2, (same_iff _ _).2 rfl] at h1
              cases h1)
            have HD := Lib.hid (show decide (la = lb) = false from decide_eq_false HNE.out)
            go_wp2
            go_ret
            exact ⟨by rw [HD.out]; rfl, HB5.out⟩
      · obtain rfl : k = m := by omega
        have HD := Lib.hid (show decide (la = lb) = true from decide_eq_true (list_ext_getD (z := Cl.zero) (by rw [HAL.out, HBL.out]) (by rw [HAL.out]; exact HE.out)))
        go_wp2
        go_ret
        exact ⟨by rw [HD.out]; rfl, HB.out⟩
  · have hmi : ¬ (m : Int) = (m2 : Int) := by omega
    have hmb : ((m : Int) == (m2 : Int)) = false := by rw [beq_eq_false_iff_ne]; exact hmi
    have HD := Lib.hid (show decide (la = lb) = false from decide_eq_false fun e => hm (by rw [← hal, ← hbl, e]))
    clear ha hb hal hbl
    go_enter Try.func98, Try.ntmps98
    go_wp2
    go_ret
    exact ⟨by rw [HD.out]; rfl, Below.refl _ _⟩
end Go.Proofs.Yteffbibmfpdenaa
end

section
namespace Go.Proofs.Yteffbibmfpdenaa
open Go.RowKit Go Go.Sort
set_option linter.unusedVariables false
set_option maxRecDepth 20000

set_option maxRecDepth 100000 in
set_option maxHeartbeats 6400000 in
theorem same_c {w : World} {a b : Option Addr} {m ca m2 cb : Nat} {la lb : List Cl} (ha : Cls w a m ca la) (hb : Cls w b m2 cb lb) (k k2 : List UInt8) :
    Calls Try.prog 71 #[.agg #[.string (text k), .slice a m ca], .agg #[.string (text k2), .slice b m2 cb]] w (Tells (.bool (k == k2 && decide (la = lb))) w) := by
  have hb1 := alloc_below w (.cells #[.string (text k), .slice a m ca] 30)
  have hn1 := heap_alloc_new w (.cells #[.string (text k), .slice a m ca] 30)
  have hs1 := World.size_alloc w (.cells #[.string (text k), .slice a m ca] 30)
  have hb2 := alloc_below (w.alloc (.cells #[.string (text k), .slice a m ca] 30)) (.cells #[.string (text k2), .slice b m2 cb] 30)
  have hn2 := heap_alloc_new (w.alloc (.cells #[.string (text k), .slice a m ca] 30)) (.cells #[.string (text k2), .slice b m2 cb] 30)
  have hn1' := heap_below hn1 hb2
  have hb12 := hb1.trans (hb2.mono hb1.size)
  rw [hs1] at hn2
  have HQ := Lib.hid (eqcells_c (ha.below hb12) (hb.below hb12))
  have HB := Lib.hid hb12
  have HN := Lib.hid (And.intro hn1' hn2)
  have hte := text_eqb k k2
  obtain ⟨u, hu⟩ : ∃ z, text k = z := ⟨_, rfl⟩
  obtain ⟨u', hu'⟩ : ∃ z, text k2 = z := ⟨_, rfl⟩
  obtain ⟨R, hR⟩ : ∃ z, (k == k2) = z := ⟨_, rfl⟩
  obtain ⟨D, hD⟩ : ∃ z, decide (la = lb) = z := ⟨_, rfl⟩
  rw [hu, hu', hR] at hte
  rw [hu, hu', hD] at HQ
  rw [hu, hu'] at HB HN
  rw [hu, hu', hR, hD]
  clear ha hb hb1 hn1 hs1 hb2 hn2 hn1' hb12 hu hu' hR hD
  go_enter Try.func71, Try.ntmps71
  go_upto_region 1 with (fail)
  obtain ⟨q, hq⟩ : ∃ z, w.heap.size = z := ⟨_, rfl⟩
  rw [hq] at HN HB ⊢
  generalize (w.alloc (.cells #[.string u, .slice a m ca] 30)).alloc (.cells #[.string u', .slice b m2 cb] 30) = W at *
  have c0 : W.cell? ⟨q, 0, none⟩ = some (.string u) := by rw [cell_of_row _ q 0 _ _ (0, 0) HN.out.1]; rfl
  have c1 : W.cell? ⟨q, 1, none⟩ = some (.slice a m ca) := by rw [cell_of_row _ q 1 _ _ (0, 0) HN.out.1]; rfl
  have c2 : W.cell? ⟨q + 1, 0, none⟩ = some (.string u') := by rw [cell_of_row _ (q + 1) 0 _ _ (0, 0) HN.out.2]; rfl
  have c3 : W.cell? ⟨q + 1, 1, none⟩ = some (.slice b m2 cb) := by rw [cell_of_row _ (q + 1) 1 _ _ (0, 0) HN.out.2]; rfl
  cases R with
  | true =>
    go_wp2_with (go_at_call 98; (with_reducible refine HQ.out.mono ?_); rintro e9 w9 ⟨rfl, hb9⟩)
    go_ret
    have hb8 := HB.out.size; rw [hq] at hb8; exact ⟨by simp, by rw [hq]; exact HB.out.trans (hb9.mono hb8)⟩
  | false =>
    go_wp2
    go_ret
    exact ⟨by simp, by rw [hq]; exact HB.out⟩
end Go.Proofs.Yteffbibmfpdenaa
end

section
namespace Go.Proofs.Yteffbibmfpdenaa
open Go.RowKit Go Go.Sort
set_option linter.unusedVariables false
set_option maxRecDepth 20000

theorem prs_getD {L : List Rw} {j : Nat} (hj : j < L.length) : (L.map Rw.pr).getD j ([], []) = (L.getD j Rw.zero).pr := by
  simp [List.getD_eq_getElem?_getD, hj]
set_option maxRecDepth 100000 in
set_option maxHeartbeats 6400000 in
theorem eqrows_c {w : World} {a b : Option Addr} {m ca m2 cb : Nat} {LA LB : List Rw} (ha : RwsAt w a m ca LA) (hb : RwsAt w b m2 cb LB) :
    Calls Try.prog 70 #[.slice a m ca, .slice b m2 cb, .func (.func 71) #[] #[]] w (Tells (.bool (decide (LA.map Rw.pr = LB.map Rw.pr))) w) := by
  have hal := ha.1.len
  have hale := ha.1.le
  have hamx := ha.1.max
  have hbl := hb.1.len
  have hble := hb.1.le
  have hbmx := hb.1.max
  by_cases hm : m = m2
  · subst hm
    have HCA := Lib.hid ha
    have HCB := Lib.hid hb
    have HAL := Lib.hid hal
    have HBL := Lib.hid hbl
    clear ha hb hal hbl
    have hmi : (m != m) = false := by simp
    obtain ⟨R, hR⟩ : ∃ z, decide (LA.map Rw.pr = LB.map Rw.pr) = z := ⟨_, rfl⟩
    rw [hR]
    have HR := Lib.hid hR
    clear hR
    go_enter Try.func70, Try.ntmps70
    go_upto_region 4 with (fail)
    go_loopw [17] (fun i wr => ∃ k : Nat, k ≤ m ∧ i = .int .i64 (k : Int) ∧ (∀ j, j < k → (LA.getD j Rw.zero).pr = (LB.getD j Rw.zero).pr) ∧ Below w.heap.size w wr) (fun i _ => m - (intOf i).toNat)
    case atStart => exact ⟨0, by omega, rfl, fun j hj => by omega, Below.refl _ _⟩
    case round =>
      obtain ⟨k, hk, rfl, he, hB⟩ := hrel
      have HE := Lib.hid he
      have HB := Lib.hid hB
      clear he hB
      by_cases hkm : k < m
      · have hki : (k : Int) < (m : Int) := by omega
        have hkc : (k : Int) < (ca : Int) := by omega
        have hkc2 : (k : Int) < (cb : Int) := by omega
        obtain ⟨ba, offa, aa, na, cca, rfl, hua, hna, hca, hata⟩ := HCA.out.place hkm
        obtain ⟨bb, offb, ab, nb, ccb, rfl, hub, hnb, hcb, hatb⟩ := HCB.out.place hkm
        obtain ⟨x, hx⟩ : ∃ x, LA.getD k Rw.zero = x := ⟨_, rfl⟩
        obtain ⟨y, hy⟩ : ∃ y, LB.getD k Rw.zero = y := ⟨_, rfl⟩
        rw [hx] at hata hca hna
        rw [hy] at hatb hcb hnb
        obtain ⟨kx, ux, csx⟩ := x
        obtain ⟨ky, uy, csy⟩ := y
        simp only at hata hca hna hatb hcb hnb
        have HX := Lib.hid hx
        have HY := Lib.hid hy
        obtain ⟨a0, a1⟩ := hata _ HB.out
        have HBT := Lib.hid hatb
        have HSC := Lib.hid (fun (W : World) (h : Below w.heap.size w W) => same_c (hca.below h) (hcb.below h) kx ky)
        obtain ⟨C, hC⟩ : ∃ z, (kx == ky && decide (csx = csy)) = z := ⟨_, rfl⟩
        rw [hC] at HSC
        have HC := Lib.hid hC
        clear hua hub hna hnb hca hcb hata hatb hx hy hC
        go_upto_region 6 with (fail)
        have hb1 := alloc_below wr (.cells #[.string (text kx), .slice aa na cca] 30)
        have hn1 := heap_alloc_new wr (.cells #[.string (text kx), .slice aa na cca] 30)
        have hs1 := World.size_alloc wr (.cells #[.string (text kx), .slice aa na cca] 30)
        have hB1 := HB.out.trans (hb1.mono HB.out.size)
        obtain ⟨q, hq⟩ : ∃ z, wr.heap.size = z := ⟨_, rfl⟩
        rw [hq] at hn1 hs1 ⊢
        obtain ⟨b0, b1⟩ := HBT.out _ hB1
        clear hb1 a0 a1
        have HQW := Lib.hid (show w.heap.size ≤ q by rw [← hq]; exact HB.out.size)
        clear hq
        generalize wr.alloc (.cells #[.string (text kx), .slice aa na cca] 30) = W1 at *
        go_upto_region 7 with (fail)
        have hb2 := alloc_below W1 (.cells #[.string (text ky), .slice ab nb ccb] 30)
        have hn2 := heap_alloc_new W1 (.cells #[.string (text ky), .slice ab nb ccb] 30)
        have hn3 := heap_below hn1 hb2
        have hB2 := hB1.trans (hb2.mono hB1.size)
        rw [hs1] at hn2
        clear hb2 hn1 hs1 b0 b1
        generalize W1.alloc (.cells #[.string (text ky), .slice ab nb ccb] 30) = W2 at *
        have c0 : W2.cell? ⟨q, 0, none⟩ = some (.string (text kx)) := by rw [cell_of_row _ q 0 _ _ (0, 0) hn3]; rfl
        have c1 : W2.cell? ⟨q, 1, none⟩ = some (.slice aa na cca) := by rw [cell_of_row _ q 1 _ _ (0, 0) hn3]; rfl
        have c2 : W2.cell? ⟨q + 1, 0, none⟩ = some (.string (text ky)) := by rw [cell_of_row _ (q + 1) 0 _ _ (0, 0) hn2]; rfl
        have c3 : W2.cell? ⟨q + 1, 1, none⟩ = some (.slice ab nb ccb) := by rw [cell_of_row _ (q + 1) 1 _ _ (0, 0) hn2]; rfl
        have HSM := Lib.hid (HSC.out _ hB2)
        have HB2 := Lib.hid hB2
        clear hn2 hn3 hB1 hB2 HSC
        cases C with
        | true =>
          have HCC := Lib.hid (show (⟨kx, ux, csx⟩ : Rw).pr = (⟨ky, uy, csy⟩ : Rw).pr by
            have h := HC.out
            rw [Bool.and_eq_true, beq_iff_eq, decide_eq_true_eq] at h
            show (kx, csx) = (ky, csy)
            rw [h.1, h.2])
          go_wp2_with (go_at_call 71; (with_reducible refine HSM.out.mono ?_); rintro e9 w9 ⟨rfl, hb9⟩)
          case roundEnd =>
            refine ⟨⟨k + 1, by omega, by go_num, fun j hj => ?_, HB2.out.trans (hb9.mono HB2.out.size)⟩, by simp [intOf]; omega⟩
            by_cases e : j = k
            · subst e; rw [HX.out, HY.out]; exact HCC.out
            · exact HE.out j (by omega)
        | false =>
          have HD := Lib.hid (show R = false by
            rw [← HR.out]
            refine decide_eq_false fun e => ?_
            have h1 := prs_getD (L := LA) (j := k) (by rw [HAL.out]; exact hkm)
            rw [e, prs_getD (by rw [HBL.out]; exact hkm), HX.out, HY.out] at h1
            have h2 : ky = kx ∧ csy = csx := by injection h1 with h1 h2; exact ⟨h1, h2⟩
            have h := HC.out
            rw [h2.1, h2.2] at h
            simp at h)
          go_wp2_with (go_at_call 71; (with_reducible refine HSM.out.mono ?_); rintro e9 w9 ⟨rfl, hb9⟩)
          go_ret
          exact ⟨by rw [HD.out]; rfl, HB2.out.trans (hb9.mono HB2.out.size)⟩
      · obtain rfl : k = m := by omega
        have HD := Lib.hid (show R = true by
          rw [← HR.out]
          refine decide_eq_true (list_ext_getD (z := ([], [])) (by rw [List.length_map, List.length_map, HAL.out, HBL.out]) fun j hj => ?_)
          rw [List.length_map] at hj
          rw [prs_getD hj, prs_getD (by rw [HBL.out, ← HAL.out]; exact hj)]
          exact HE.out j (by rw [← HAL.out]; exact hj))
        go_wp2
        go_ret
        exact ⟨by rw [HD.out]; rfl, HB.out⟩
  · have hmi : ¬ (m : Int) = (m2 : Int) := by omega
    have hmb : ((m : Int) == (m2 : Int)) = false := by rw [beq_eq_false_iff_ne]; exact hmi
    have HD := Lib.hid (show decide (LA.map Rw.pr = LB.map Rw.pr) = false from decide_eq_false fun e => hm (by have := congrArg List.length e; rw [List.length_map, List.length_map] at this; omega))
    clear ha hb hal hbl
    go_enter Try.func70, Try.ntmps70
    go_wp2
    go_ret
    exact ⟨by rw [HD.out]; rfl, Below.refl _ _⟩
end Go.Proofs.Yteffbibmfpdenaa
end

section
namespace Go.Proofs.Yteffbibmfpdenaa
open Go.RowKit Go Go.Sort
set_option linter.unusedVariables false
set_option maxRecDepth 20000

/-- What Merge tells. -/
def mgeS (gs : List Grp) (A B : List Rp) : List Rp × Int := if ¬ mgoodS gs A = 0 then ([], mgoodS gs A) else if ¬ mgoodS gs B = 0 then ([], mgoodS gs B) else (mrg Op.bytesLess opC A B, 0)
theorem mge_a {gs : List Grp} {A B : List Rp} (h : ¬ mgoodS gs A = 0) : mgeS gs A B = ([], mgoodS gs A) := by unfold mgeS; rw [if_pos h]
theorem mge_b {gs : List Grp} {A B : List Rp} (h0 : mgoodS gs A = 0) (h : ¬ mgoodS gs B = 0) : mgeS gs A B = ([], mgoodS gs B) := by unfold mgeS; rw [if_neg (not_not_intro h0), if_pos h]
theorem mge_ok {gs : List Grp} {A B : List Rp} (h0 : mgoodS gs A = 0) (h : mgoodS gs B = 0) : mgeS gs A B = (mrg Op.bytesLess opC A B, 0) := by unfold mgeS; rw [if_neg (not_not_intro h0), if_neg (not_not_intro h)]
theorem idx_two (xs : Array Value) (k : Nat) (hk : k < 2) {v : Value} (hv : xs[k]? = some v) (h1 : v.oneCell' = true) (W : World) : (Instr.index 123 (.agg xs) (.int .i64 (k : Int))).run Try.prog W = .ok v W := by
  have hi : (Try.prog.info? 27).map (fun i => (i.zero, i.size, i.bytes)) = some (some (.slice none 0 0), 1, 24) := by kernel_rfl
  obtain ⟨i0, hi, hz0, hz1, hz2⟩ := info_parts hi
  simp [Instr.index, run_underlying Try.underlying123, asIntOf, hk, hv, sizeOf, typeInfo, hi, hz1, go_sem]
theorem two0 (a b : Option Addr) (n c m d : Nat) (W : World) : (Instr.index 123 (.agg #[.slice a n c, .slice b m d]) (.int .i64 0)).run Try.prog W = .ok (.slice a n c) W := idx_two _ 0 (by decide) rfl rfl W
theorem two1 (a b : Option Addr) (n c m d : Nat) (W : World) : (Instr.index 123 (.agg #[.slice a n c, .slice b m d]) (.int .i64 1)).run Try.prog W = .ok (.slice b m d) W := idx_two _ 1 (by decide) rfl rfl W
set_option maxRecDepth 100000 in
set_option maxHeartbeats 6400000 in
theorem mmerge_c {w : World} {x xa xb : Option Addr} {n1 cap ma capa mb capb : Nat} {gs : List Grp} {LA LB : List Rw} (hg : Grs w x n1 cap gs) (hs : ∀ g ∈ gs, g.1.length ≤ 9223372036854775807) (ha : RwsAt w xa ma capa LA) (hb : RwsAt w xb mb capb LB) (hsa : RShort LA) (hsb : RShort LB) (hm : ma + mb ≤ 1000000) :
    Calls Try.prog 37 #[.slice x n1 cap, .slice xa ma capa, .slice xb mb capb] w (StPost (mgeS gs (LA.map Rw.pr) (LB.map Rw.pr)) n1 w) := by
  have HGA := Lib.hid (mgood_c hg hs ha hsa)
  have HGB := Lib.hid (fun W (h : Below w.heap.size w W) => mgood_c (hg.below h) hs (hb.below h) hsb)
  have HMM := Lib.hid (fun W (h : Below w.heap.size w W) (h1 : mgoodS gs (LA.map Rw.pr) = 0) (h2 : mgoodS gs (LB.map Rw.pr) = 0) => by
    have i1 := mgood_iff.1 h1
    have i2 := mgood_iff.1 h2
    have hp := pgood_len i1.1
    have hp2 := pgood_pos i1.1
    have hgl := hg.len
    exact mmerged_c (hg.below h) hs (ha.below h) (hb.below h) (fun r hr => i1.good r.pr (List.mem_map.2 ⟨r, hr, rfl⟩)) (fun r hr => i2.good r.pr (List.mem_map.2 ⟨r, hr, rfl⟩)) hm (by omega) (by omega))
  have HEA := Lib.hid (fun (h : ¬ mgoodS gs (LA.map Rw.pr) = 0) => mge_a (B := LB.map Rw.pr) h)
  have HEB := Lib.hid (fun (h0 : mgoodS gs (LA.map Rw.pr) = 0) (h : ¬ mgoodS gs (LB.map Rw.pr) = 0) => mge_b (B := LB.map Rw.pr) h0 h)
  have HEO := Lib.hid (fun (h0 : mgoodS gs (LA.map Rw.pr) = 0) (h : mgoodS gs (LB.map Rw.pr) = 0) => mge_ok (B := LB.map Rw.pr) h0 h)
  obtain ⟨RV, hRV⟩ : ∃ z, mgeS gs (LA.map Rw.pr) (LB.map Rw.pr) = z := ⟨_, rfl⟩
  rw [hRV] at HEA HEB HEO ⊢
  obtain ⟨GA, hGA⟩ : ∃ z, mgoodS gs (LA.map Rw.pr) = z := ⟨_, rfl⟩
  obtain ⟨GB, hGB⟩ : ∃ z, mgoodS gs (LB.map Rw.pr) = z := ⟨_, rfl⟩
  rw [hGA] at HGA HEA HEB HEO
  rw [hGB] at HEB HEO
  simp only [hGA, hGB] at HMM
  simp only [hGB] at HGB
  clear hRV hGA hGB hg hs ha hb hsa hsb hm
  have t0 := two0 xa xb ma capa mb capb
  have t1 := two1 xa xb ma capa mb capb
  go_enter Try.func37, Try.ntmps37
  go_upto_region 2 with (fail)
  go_loopw [9, 10, 14] (fun v e i wr => (i = .int .i64 0 ∧ wr = w) ∨ (i = .int .i64 1 ∧ GA = 0 ∧ Below w.heap.size w wr) ∨ (i = .int .i64 2 ∧ GA = 0 ∧ GB = 0 ∧ Below w.heap.size w wr)) (fun _ _ i _ => 2 - (intOf i).toNat)
  case atStart => exact .inl ⟨rfl, rfl⟩
  case round =>
    rcases hrel with ⟨rfl, rfl⟩ | ⟨rfl, h0, hB⟩ | ⟨rfl, h0, h1, hB⟩
    · by_cases hz : GA = 0
      · subst hz
        go_wp2_with (go_at_call 35; (with_reducible refine HGA.out.mono ?_); rintro e9 w9 ⟨rfl, hb9⟩)
        go_roundw
        case rel => exact .inr (.inl ⟨rfl, by first | rfl | trivial, hb9⟩)
        case measure => simp [intOf]
      · have HRR := Lib.hid (HEA.out hz)
        go_wp2_with (go_at_call 35; (with_reducible refine HGA.out.mono ?_); rintro e9 w9 ⟨rfl, hb9⟩)
        go_ret2
        exact ⟨_, [], by rw [HRR.out]; rfl, by rw [HRR.out]; rfl, OwnRw.nil _ _ _, hb9⟩
    · by_cases hz : GB = 0
      · subst hz
        have HG1 := Lib.hid (HGB.out _ hB)
        have HB1 := Lib.hid hB
        clear hB
        go_wp2_with (go_at_call 35; (with_reducible refine HG1.out.mono ?_); rintro e9 w9 ⟨rfl, hb9⟩)
        go_roundw
        case rel => exact .inr (.inr ⟨rfl, h0, by first | rfl | trivial, HB1.out.trans (hb9.mono HB1.out.size)⟩)
        case measure => simp [intOf]
      · have HRR := Lib.hid (HEB.out h0 hz)
        have HG1 := Lib.hid (HGB.out _ hB)
        have HB1 := Lib.hid hB
        clear hB
        go_wp2_with (go_at_call 35; (with_reducible refine HG1.out.mono ?_); rintro e9 w9 ⟨rfl, hb9⟩)
        go_ret2
        exact ⟨_, [], by rw [HRR.out]; rfl, by rw [HRR.out]; rfl, OwnRw.nil _ _ _, HB1.out.trans (hb9.mono HB1.out.size)⟩
    · have HRR := Lib.hid (HEO.out h0 h1)
      have HM := Lib.hid (HMM.out _ hB h0 h1)
      have HB1 := Lib.hid hB
      clear hB
      go_wp2_with (go_at_call 67; (with_reducible refine HM.out.mono ?_); rintro e9 w9 ⟨v9, N9, rfl, hp9, ho9, hb9⟩)
      go_ret2
      exact ⟨_, N9, by rw [HRR.out]; rfl, by rw [HRR.out]; exact hp9, ho9.mono HB1.out.size, HB1.out.trans (hb9.mono HB1.out.size)⟩
/-- What Within tells. -/
def mwithS (gs : List Grp) (A B : List Rp) : Bool := (mgeS gs A B).2 == 0 && decide ((mgeS gs A B).1 = B)
set_option maxRecDepth 100000 in
set_option maxHeartbeats 6400000 in
theorem mwithin_c {w : World} {x xa xb : Option Addr} {n1 cap ma capa mb capb : Nat} {gs : List Grp} {LA LB : List Rw} (hg : Grs w x n1 cap gs) (hs : ∀ g ∈ gs, g.1.length ≤ 9223372036854775807) (ha : RwsAt w xa ma capa LA) (hb : RwsAt w xb mb capb LB) (hsa : RShort LA) (hsb : RShort LB) (hm : ma + mb ≤ 1000000) :
    Calls Try.prog 40 #[.slice x n1 cap, .slice xa ma capa, .slice xb mb capb] w (Tells (.bool (mwithS gs (LA.map Rw.pr) (LB.map Rw.pr))) w) := by
  have HM := Lib.hid (mmerge_c hg hs ha hb hsa hsb hm)
  have HEQ := Lib.hid (fun W (h : Below w.heap.size w W) (a : Option Addr) (m ca : Nat) (N : List Rw) (hn : RwsAt W a m ca N) => eqrows_c hn (hb.below h))
  obtain ⟨R, hR⟩ : ∃ z, mwithS gs (LA.map Rw.pr) (LB.map Rw.pr) = z := ⟨_, rfl⟩
  rw [hR]
  unfold mwithS at hR
  obtain ⟨⟨M, E⟩, hRV⟩ : ∃ z, mgeS gs (LA.map Rw.pr) (LB.map Rw.pr) = z := ⟨_, rfl⟩
  rw [hRV] at hR HM
  have HR := Lib.hid hR
  clear hRV hR hg hs ha hb hsa hsb hm
  go_enter Try.func40, Try.ntmps40
  go_upto_region 2 with (go_at_call 37; (with_reducible refine HM.out.mono ?_); rintro e9 w9 hp9; obtain ⟨v9, rfl, hv9, hb9⟩ := hp9.st; obtain ⟨u9, rfl, a9, c9, N9, rfl, hr9, hp9⟩ := hv9)
  have HE9 := Lib.hid (HEQ.out _ hb9 _ _ _ _ hr9)
  have HP9 := Lib.hid hp9
  have HB9 := Lib.hid hb9
  clear hr9 hp9 hb9
  by_cases hz : E = 0
  · subst hz
    have HRR := Lib.hid (show decide (N9.map Rw.pr = LB.map Rw.pr) = R by rw [← HR.out, HP9.out]; rfl)
    go_wp2_with (go_at_call 70; (with_reducible refine HE9.out.mono ?_); rintro e9 w3 ⟨rfl, hb3⟩)
    go_ret
    exact ⟨by rw [← HRR.out]; rfl, HB9.out.trans (hb3.mono HB9.out.size)⟩
  · have HRR := Lib.hid (show R = false by
      rw [← HR.out, show (E == 0) = false from by rw [beq_eq_false_iff_ne]; exact hz]
      rfl)
    go_wp2
    go_ret
    exact ⟨by rw [HRR.out]; rfl, HB9.out⟩
end Go.Proofs.Yteffbibmfpdenaa
end

section
namespace Go.Proofs.Yteffbibmfpdenaa
open Go.RowKit Go Go.Sort
set_option linter.unusedVariables false
set_option maxRecDepth 20000

/-- append of rows that lie in memory. -/
theorem Ls.srcC {W : World} {a : Option Addr} {n cap : Nat} {L : List Cg} (h : Ls 7 Cg.arr Cg.zero W a n cap L) : n = 0 ∨ ∃ b off, a = some ⟨b, off, none⟩ ∧ ∀ j v, (lCells Cg.arr L)[j]? = some v → W.cell? ((⟨b, off, none⟩ : Addr).add j) = some v := by
  by_cases hn : n = 0
  · exact .inl hn
  · right
    rcases h.adr with h4 | ⟨b, off, rfl, hat⟩
    · have := h.le; omega
    · refine ⟨b, off, rfl, fun j v hj => ?_⟩
      have hjl : j < L.length * 7 := by
        have := (List.getElem?_eq_some_iff.1 hj).1
        rwa [lCells_length (sz := 7) cg_size] at this
      have e := lCells_get (z := Cg.zero) cg_size L (j / 7) (j % 7) (by omega) (Nat.mod_lt _ (by omega))
      rw [show j / 7 * 7 + j % 7 = j by omega, hj] at e
      have := hat (j / 7) (by have := h.len; omega) (j % 7) v e.symm
      rw [addr_add]
      rw [show off + j / 7 * 7 + j % 7 = off + j by omega] at this
      exact this
theorem cgcells_one (L : List Cg) (h : ∀ j, j < L.length → ∃ a n c, (L.getD j Cg.zero).u = .slice a n c) : ∀ v ∈ lCells Cg.arr L, v.oneCell' = true := by
  intro v hv
  obtain ⟨r, hr, hv⟩ := List.mem_flatMap.1 hv
  obtain ⟨j, hj, rfl⟩ := List.getElem_of_mem hr
  obtain ⟨a, n, c, e⟩ := h j hj
  rw [List.getD_eq_getElem?_getD, List.getElem?_eq_getElem hj] at e
  have e : (L[j]).u = .slice a n c := e
  have hv : v ∈ [Value.int .i64 (L[j]).site, .int .i64 (L[j]).seq, .int .i64 (L[j]).n, .int .i64 (L[j]).s, .int .i64 (L[j]).a, .int .i64 (L[j]).b, (L[j]).u] := hv
  rw [e] at hv
  simp only [List.mem_cons, List.not_mem_nil, or_false] at hv
  rcases hv with rfl | rfl | rfl | rfl | rfl | rfl | rfl <;> rfl
theorem wpList_append_cgs {w : World} {ops : Array Oper} {rest : List Oper} {o : Oper} {ac : Act} {Q : Exit → Act → World → Prop} (hgd : o.guard = none) (os ox : Operand)
    (ho : o.op = .call { callee := .builtin .append, args := #[os, ox], argTypes := #[61, 61] })
    {base : Nat} {u : Value} {l M : List Cg} (hs : ac.eval os = u) (hown : OwnL 7 95 Cg.arr w base u l) {a : Option Addr} {cap : Nat} (hx : ac.eval ox = .slice a M.length cap) (hm : ChsAt w a M.length cap M) (h63 : l.length + M.length ≤ 1000000000) (hbase : base ≤ w.heap.size)
    (h : ∀ v' w', OwnL 7 95 Cg.arr w' base v' (l ++ M) → w.grownBy w' u.ownBlock → wpList Try.prog ops Q rest (ac.put o.dst v') w') :
    wpList Try.prog ops Q (o :: rest) ac w := by
  obtain ⟨i0, hi, hz0, hz1, hz2⟩ := info_parts Try.infoCg
  rcases hm.1.srcC with hz | ⟨b, off, rfl, hsrc⟩
  · have hM : M = [] := List.eq_nil_of_length_eq_zero hz
    subst hM
    refine wpList_plain hgd fun K hK => ?_
    have hsr : Src Try.prog i0.size 61 (.slice a 0 cap) 0 [] w := by
      cases a with
      | none => exact Src.ofNil w Try.underlying61 cap
      | some a => exact Src.ofSlice w Try.underlying61 a 0 cap [] (by simp) (by simp) (by simp)
    rcases hown.2 with ⟨rfl, hn0⟩ | ⟨g, cp, cur, rfl, hB, hgg, hnc, hcm, hcs, htk⟩
    · have hr := run_append_zero (P := Try.prog) w 61 61 o.type 95 i0 Try.underlying61 hi (.slice a 0 cap) hsr
      unfold Oper.wp execOp
      simp only [ho, resolve, invoke, builtin, Sem.run_bind, Sem.run_pure, Result.andThen_ok, List.map_toArray, List.map_cons, List.map_nil, hs, hx, List.length_nil, hr]
      exact hK _ _ (h _ _ (by rw [List.append_nil]; exact hown) (World.grownBy.refl _ _))
    · have hr := run_append_room_src (P := Try.prog) (w := w) 61 61 o.type 95 i0 Try.underlying61 hi g 0 l.length cp (.slice a 0 cap) 0 [] hsr (by omega) (fun j hj => absurd hj (by simp)) (fun j hj => absurd hj (by simp))
      have hw : w.setCells g (0 + l.length * i0.size) [] = w := by simp [World.setCells]
      rw [hw] at hr
      unfold Oper.wp execOp
      simp only [ho, resolve, invoke, builtin, Sem.run_bind, Sem.run_pure, Result.andThen_ok, List.map_toArray, List.map_cons, List.map_nil, hs, hx, List.length_nil, hr]
      exact hK _ _ (h _ _ (by rw [List.append_nil]; exact hown) (World.grownBy.refl _ _))
  · refine wpList_append_own_wide (P := Try.prog) w hgd os ox 61 ho base 95 i0 _ 7 72 Try.underlying61 hi hz0 hz1 hz2 rfl (by decide) u l.length (lCells Cg.arr l) hs hown
      ⟨b, off, none⟩ M.length cap (lCells Cg.arr M) hx (by rw [lCells_length (sz := 7) cg_size]) hsrc (cgcells_one M fun j hj => by obtain ⟨a', c', e, -⟩ := hm.2 j hj; exact ⟨_, _, _, e⟩) (by unfold maxLen; omega) (by omega) hbase ?_
    intro v' w' h2 h3 _
    refine h v' w' ?_ h3
    unfold OwnL
    rw [List.length_append, lCells_append]
    exact h2
end Go.Proofs.Yteffbibmfpdenaa
end

section
namespace Go.Proofs.Yteffbibmfpdenaa
open Go.RowKit Go Go.Sort
set_option linter.unusedVariables false
set_option maxRecDepth 20000

theorem chs_two {w W : World} {a b a' : Option Addr} {m cp m2 cp2 n' c' : Nat} {L M : List Cg} (hl : ChsAt w a m cp L) (hd : ChsAt w b m2 cp2 M) (hb : Below w.heap.size w W) (h : Ls 7 Cg.arr Cg.zero W a' n' c' (L ++ M)) : ChsAt W a' n' c' (L ++ M) :=
  ⟨h, fun j hj => by
    have hlen := h.len
    rw [List.length_append, hl.1.len, hd.1.len] at hlen
    by_cases e : j < m
    · have e2 : (L ++ M).getD j Cg.zero = L.getD j Cg.zero := by
        rw [List.getD_eq_getElem?_getD, List.getD_eq_getElem?_getD, List.getElem?_append_left (by rw [hl.1.len]; exact e)]
      rw [e2]
      obtain ⟨ad, cd, e3, hw, hx⟩ := hl.2 j e
      exact ⟨ad, cd, e3, hw.below hb, hx⟩
    · have e2 : (L ++ M).getD j Cg.zero = M.getD (j - m) Cg.zero := by
        rw [List.getD_eq_getElem?_getD, List.getD_eq_getElem?_getD, List.getElem?_append_right (by rw [hl.1.len]; omega), hl.1.len]
      rw [e2]
      obtain ⟨ad, cd, e3, hw, hx⟩ := hd.2 (j - m) (by omega)
      exact ⟨ad, cd, e3, hw.below hb, hx⟩⟩
theorem own_zero (w : World) : OwnL 7 95 Cg.arr (w.alloc (.cells #[] 95)) w.heap.size (.slice (some ⟨w.heap.size, 0, none⟩) 0 0) [] :=
  ⟨rfl, .inr ⟨w.heap.size, 0, #[], rfl, Nat.le_refl _, heap_alloc_new _ _, Nat.le_refl _, by decide, rfl, rfl⟩⟩
theorem st_bad2 {gs : List Grp} {cs ds : List Chg} (h : ¬ (stS gs cs).2 = 0 ∨ ¬ (stS gs ds).2 = 0) : ¬ (stS gs (cs ++ ds)).2 = 0 := fun e => by
  obtain ⟨hp, ha⟩ := st_inv e
  rcases h with h | h
  · exact h (by rw [st_ok hp fun c hc => ha c (List.mem_append_left _ hc)])
  · exact h (by rw [st_ok hp fun c hc => ha c (List.mem_append_right _ hc)])
set_option maxRecDepth 100000 in
set_option maxHeartbeats 6400000 in
theorem mparts_walk {w : World} {x a b : Option Addr} {n1 cap m cp m2 cp2 : Nat} {gs : List Grp} {L M : List Cg} (hg : Grs w x n1 cap gs) (hs : ∀ g ∈ gs, g.1.length ≤ 9223372036854775807) (hl : ChsAt w a m cp L) (hd : ChsAt w b m2 cp2 M) (hm : m + m2 ≤ 1000000000) :
    Calls Try.prog 12 #[.slice x n1 cap, .slice a m cp, .slice b m2 cp2] w (Tells (.bool true) w) := by
  have hle1 := hg.le
  have hmax1 := hg.max
  have hn1 : n1 ≤ 9223372036854775807 := by omega
  obtain rfl := hl.1.len
  obtain rfl := hd.1.len
  have HO1 := Lib.hid (own_zero w)
  have HZ1 := Lib.hid (alloc_below w (.cells #[] 95))
  have HZS1 := Lib.hid HZ1.out.size
  have HY1 := Lib.hid HZ1.out
  have HZB1 := Lib.hid (Nat.le_refl w.heap.size)
  have HLC := Lib.hid hl
  have HMC := Lib.hid hd
  have HM9 := Lib.hid hm
  have HG := Lib.hid hg
  have HS := Lib.hid hs
  clear hg hs hl hd hm
  go_enter Try.func12, Try.ntmps12
  go_upto_region 3 with (first
  | (at_builtin; refine wpList_append_cgs rfl _ _ rfl rfl HO1.out rfl (HLC.out.below HZ1.out) (by have := HM9.out; simp; omega) HZS1.out ?_; intro v11 w11 ho11 hg11; have HO11 := Lib.hid (show OwnL 7 95 Cg.arr w11 w.heap.size v11 L from ho11); have HZ11 := Lib.hid (HZ1.out.grown hg11 HZ1.out.size (fun k e => Nat.le_trans HZB1.out (HO1.out.lt k e).1)); have HY11 := Lib.hid (HY1.out.grown hg11 HY1.out.size (fun k e => (HO1.out.lt k e).1)); have HZS11 := Lib.hid (Nat.le_trans HZS1.out hg11.size); clear ho11 hg11)
  | (at_builtin; refine wpList_append_cgs rfl _ _ rfl rfl HO11.out rfl (HMC.out.below HZ11.out) (by have := HM9.out; omega) HZS11.out ?_; intro v12 w12 ho12 hg12; obtain ⟨a12, c12, rfl, hs12⟩ := OwnL.ls (z := Cg.zero) cg_size ho12; have HZ12 := Lib.hid (HZ11.out.grown hg12 HZ11.out.size (fun k e => Nat.le_trans HZB1.out (HO11.out.lt k e).1)); have HY12 := Lib.hid (HY11.out.grown hg12 HY11.out.size (fun k e => (HO11.out.lt k e).1)); rw [List.length_append] at hs12; have HN1 := Lib.hid (chs_two HLC.out HMC.out HZ12.out hs12); clear ho12 hg12 hs12)
  | (go_at_call 31; (with_reducible refine (mlight_c hn1 HN1.out).mono ?_); rintro e9 w1 ⟨bb, rfl, hb, hb1⟩)
  | (go_at_call 32; (with_reducible refine (mlives_c _).mono ?_); rintro e9 w9 ⟨rfl, hb9⟩))
  · go_ret
    exact ⟨rfl, HZ12.out.trans ((hb1.trans (hb9.mono hb1.size)).mono HZ12.out.size)⟩
  have hm6 : L.length + M.length ≤ 600 := hb (by simp_all)
  have hW1 := HZ12.out.trans (hb1.mono HZ12.out.size)
  have HST := Lib.hid (mstate_c (HG.out.below hW1) HS.out (HLC.out.below hW1) (by omega))
  clear hb HO1 HZ1 HZS1 HZB1 HY1 HO11 HZ11 HZS11 HY11 HZ12 HY12 HN1 hb1
  go_upto_region 4 with (go_at_call 33; (with_reducible refine HST.out.mono ?_); rintro e9 w2 hp9; obtain ⟨v2, rfl, hv2, hb2⟩ := hp9.st; obtain ⟨u2, rfl, aA, cA, NA, rfl, hra, hpa⟩ := hv2)
  have hW2 := hW1.trans (hb2.mono hW1.size)
  have HST2 := Lib.hid (mstate_c (HG.out.below hW2) HS.out (HMC.out.below hW2) (by omega))
  go_upto_region 5 with (go_at_call 33; (with_reducible refine HST2.out.mono ?_); rintro e9 w3 hp9; obtain ⟨v3, rfl, hv3, hb3⟩ := hp9.st; obtain ⟨u3, rfl, aB, cB, NB, rfl, hrb, hpb⟩ := hv3)
  have hW3 := hW2.trans (hb3.mono hW2.size)
  have HRA := Lib.hid (hra.below hb3)
  have HRB := Lib.hid hrb
  have HPA := Lib.hid hpa
  have HPB := Lib.hid hpb
  have HO5 := Lib.hid (own_zero w3)
  have HY5 := Lib.hid (alloc_below w3 (.cells #[] 95))
  have HZ5 := Lib.hid (hW3.trans (HY5.out.mono hW3.size))
  have HZS5 := Lib.hid HY5.out.size
  have HZB5 := Lib.hid hW3.size
  have HB3 := Lib.hid hW3
  clear hra hrb hpa hpb hb2 hb3 HST HST2 hW1 hW2 hW3
  go_upto_region 6 with (first
  | (at_builtin; refine wpList_append_cgs rfl _ _ rfl rfl HO5.out rfl (HLC.out.below HZ5.out) (by have := HM9.out; simp; omega) HZS5.out ?_; intro v51 w51 ho51 hg51; have HO51 := Lib.hid (show OwnL 7 95 Cg.arr w51 w3.heap.size v51 L from ho51); have HZ51 := Lib.hid (HZ5.out.grown hg51 HZ5.out.size (fun k e => Nat.le_trans HZB5.out (HO5.out.lt k e).1)); have HY51 := Lib.hid (HY5.out.grown hg51 HY5.out.size (fun k e => (HO5.out.lt k e).1)); have HZS51 := Lib.hid (Nat.le_trans HZS5.out hg51.size); clear ho51 hg51)
  | (at_builtin; refine wpList_append_cgs rfl _ _ rfl rfl HO51.out rfl (HMC.out.below HZ51.out) (by have := HM9.out; omega) HZS51.out ?_; intro v52 w52 ho52 hg52; obtain ⟨a52, c52, rfl, hs52⟩ := OwnL.ls (z := Cg.zero) cg_size ho52; have HZ52 := Lib.hid (HZ51.out.grown hg52 HZ51.out.size (fun k e => Nat.le_trans HZB5.out (HO51.out.lt k e).1)); have HY52 := Lib.hid (HY51.out.grown hg52 HY51.out.size (fun k e => (HO51.out.lt k e).1)); rw [List.length_append] at hs52; have HN5 := Lib.hid (chs_two HLC.out HMC.out HZ52.out hs52); clear ho52 hg52 hs52)
  | (go_at_call 33; (with_reducible refine (mstate_c (HG.out.below HZ52.out) HS.out HN5.out (by omega)).mono ?_); rintro e9 w4 hp9; obtain ⟨v4, rfl, hv4, hb4⟩ := hp9.st; obtain ⟨u4, rfl, aC, cC, NC, rfl, hrc, hpc⟩ := hv4))
  have hW4 := HZ52.out.trans (hb4.mono HZ52.out.size)
  have hY4 := HY52.out.trans (hb4.mono HY52.out.size)
  rw [List.map_append] at hpc
  have HG4 := Lib.hid (HG.out.below hW4)
  have HRA4 := Lib.hid (HRA.out.below hY4)
  have HRB4 := Lib.hid (HRB.out.below hY4)
  have HRC4 := Lib.hid hrc
  have HPC := Lib.hid hpc
  have HW4 := Lib.hid hW4
  clear hW4 hY4 hrc hpc hb4 HO5 HY5 HZ5 HZS5 HZB5 HB3 HO51 HY51 HZ51 HZS51 HN5 HZ52 HY52 HRA HRB HG HLC HMC HM9
  have HPT := Lib.hid (@st_parts gs (L.map Cg.ch) (M.map Cg.ch))
  have HBD := Lib.hid (@st_bad2 gs (L.map Cg.ch) (M.map Cg.ch))
  have HFA := Lib.hid (st_few (gs := gs) (L.map Cg.ch))
  have HFB := Lib.hid (st_few (gs := gs) (M.map Cg.ch))
  have HFC := Lib.hid (st_few (gs := gs) (L.map Cg.ch ++ M.map Cg.ch))
  have HIA := Lib.hid (@st_st gs (L.map Cg.ch))
  have HIB := Lib.hid (@st_st gs (M.map Cg.ch))
  have HIC := Lib.hid (@st_st gs (L.map Cg.ch ++ M.map Cg.ch))
  rw [List.length_map] at HFA HFB
  rw [List.length_append, List.length_map, List.length_map] at HFC
  obtain ⟨⟨RA, EA⟩, hA⟩ : ∃ z, stS gs (L.map Cg.ch) = z := ⟨_, rfl⟩
  obtain ⟨⟨RB, EB⟩, hB⟩ : ∃ z, stS gs (M.map Cg.ch) = z := ⟨_, rfl⟩
  obtain ⟨⟨RC, EC⟩, hC⟩ : ∃ z, stS gs (L.map Cg.ch ++ M.map Cg.ch) = z := ⟨_, rfl⟩
  rw [hA, hB, hC] at HPT HBD
  rw [hA] at HPA HFA HIA
  rw [hB] at HPB HFB HIB
  rw [hC] at HPC HFC HIC
  rw [hA, hB, hC]
  simp only at HPT HBD HPA HPB HPC HFA HFB HFC HIA HIB HIC ⊢
  clear hA hB hC
  by_cases h1 : EA = 0
  · by_cases h2 : EB = 0
    · subst h1 h2
      obtain ⟨h3, hm1, hm2, hm3⟩ := HPT.out rfl rfl
      subst h3
      have iA := HIA.out rfl
      have iB := HIB.out rfl
      have iC := HIC.out rfl
      have lA : NA.length = RA.length := by rw [← HPA.out, List.length_map]
      have lB : NB.length = RB.length := by rw [← HPB.out, List.length_map]
      have lC : NC.length = RC.length := by rw [← HPC.out, List.length_map]
      have fA := HFA.out
      have fB := HFB.out
      have fC := HFC.out
      have gA : mgoodS gs (NA.map Rw.pr) = 0 := by rw [HPA.out]; exact mgood_iff.2 iA
      have gB : mgoodS gs (NB.map Rw.pr) = 0 := by rw [HPB.out]; exact mgood_iff.2 iB
      have gC : mgoodS gs (NC.map Rw.pr) = 0 := by rw [HPC.out]; exact mgood_iff.2 iC
      have hme := mmerge_c HG4.out HS.out HRA4.out HRB4.out (short_st iA HPA.out) (short_st iB HPB.out) (by omega)
      rw [mge_ok gA gB, HPA.out, HPB.out, hm1] at hme
      have HME := Lib.hid hme
      have hwa : mwithS gs (NA.map Rw.pr) (NC.map Rw.pr) = true := by
        unfold mwithS
        rw [mge_ok gA gC, HPA.out, HPC.out, hm2]
        simp
      have hwb : mwithS gs (NB.map Rw.pr) (NC.map Rw.pr) = true := by
        unfold mwithS
        rw [mge_ok gB gC, HPB.out, HPC.out, hm3]
        simp
      have HWA := Lib.hid (fun (W : World) (h : Below w4.heap.size w4 W) => by
        have h0 := mwithin_c (HG4.out.below h) HS.out (HRA4.out.below h) (HRC4.out.below h) (short_st iA HPA.out) (short_st iC HPC.out) (by omega)
        rw [hwa] at h0
        exact h0)
      have HWB := Lib.hid (fun (W : World) (h : Below w4.heap.size w4 W) => by
        have h0 := mwithin_c (HG4.out.below h) HS.out (HRB4.out.below h) (HRC4.out.below h) (short_st iB HPB.out) (short_st iC HPC.out) (by omega)
        rw [hwb] at h0
        exact h0)
      clear hme hwa hwb gA gB gC lA lB lC fA fB fC iA iB iC hm1 hm2 hm3
      go_upto_region 9 with (go_at_call 37; (with_reducible refine HME.out.mono ?_); rintro e9 w5 hp9; obtain ⟨v5, rfl, hv5, hb5⟩ := hp9.st; obtain ⟨u5, rfl, aM, cM, NM, rfl, hrm, hpm⟩ := hv5)
      have hln : NM.length = NC.length := by simpa using congrArg List.length (hpm.trans HPC.out.symm)
      rw [hln] at hrm ⊢
      have HAL := Lib.hid (rall_c hrm (HRC4.out.below hb5) (hpm.trans HPC.out.symm))
      have HB5 := Lib.hid hb5
      clear hrm hpm hln hb5
      go_wp2_with (first
        | (go_at_call 26; (with_reducible refine HAL.out.mono ?_); rintro e9 w6 ⟨rfl, hb6⟩; have HB6 := Lib.hid (HB5.out.trans (hb6.mono HB5.out.size)); clear hb6)
        | (go_at_call 40; (with_reducible refine (HWA.out _ HB6.out).mono ?_); rintro e9 w7 ⟨rfl, hb7⟩; have HB7 := Lib.hid (HB6.out.trans (hb7.mono HB6.out.size)); clear hb7)
        | (go_at_call 40; (with_reducible refine (HWB.out _ HB7.out).mono ?_); rintro e9 w8 ⟨rfl, hb8⟩; have HB8 := Lib.hid (HB7.out.trans (hb8.mono HB7.out.size)); clear hb8)
        | (go_at_call 32; (with_reducible refine (mlives_c _).mono ?_); rintro e9 w9 ⟨rfl, hb9⟩))

      go_ret
      exact ⟨rfl, HW4.out.trans ((HB8.out.trans (hb9.mono HB8.out.size)).mono HW4.out.size)⟩
    · have h3 := HBD.out (.inr h2)
      subst h1
      go_wp2_with (go_at_call 32; (with_reducible refine (mlives_c _).mono ?_); rintro e9 w9 ⟨rfl, hb9⟩)
      go_ret
      exact ⟨by rw [show (EC != 0) = true by rw [bne_iff_ne]; exact h3]; rfl, HW4.out.trans (hb9.mono HW4.out.size)⟩
  · have h3 := HBD.out (.inl h1)
    go_wp2_with (go_at_call 32; (with_reducible refine (mlives_c _).mono ?_); rintro e9 w9 ⟨rfl, hb9⟩)
    go_ret
    exact ⟨by rw [show (EC != 0) = true by rw [bne_iff_ne]; exact h3]; rfl, HW4.out.trans (hb9.mono HW4.out.size)⟩
end Go.Proofs.Yteffbibmfpdenaa
end

