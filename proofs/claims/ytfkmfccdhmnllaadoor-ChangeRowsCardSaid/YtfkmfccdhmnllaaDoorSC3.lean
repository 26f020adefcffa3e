/-
  Merged: E3 E5 DJ ED EE EF.
-/
import Derived.Deep.QuietTactic
import Derived.StillTail
import Derived.Lib.QuietBelow
import Derived.Test.YtfkmfccdhmnllaaDoorRows
import Derived.WalkKit
import Derived.Lib.Hide
import Derived.BigQuiet
import Derived.BigRegion
import Derived.Deep.Cut
import Derived.Deep.MidRow
import Derived.Great.BuildSlice
import Derived.Outline
import Derived.OwnWalk
import Derived.Laws.Rows
import Derived.ChangeKeysEq
import Derived.Laws.StructEq
import Derived.WalkSpells
import Derived.WalkLawsBesides
import Derived.Laws.CopyOwn
import Derived.WalkSmall
import Derived.Lib.LaidTab
import Derived.Deep.RegionWith
import Derived.Lib.MinMax
import Derived.WideShapes
import Derived.ChangeSame
import Derived.OpenShut
import Derived.Deep.Slices
import Derived.Deep.AppendSrc
import Derived.Lib.AppendZerosOnto
import Derived.Lib.SliceRun
import Derived.Lib.Walk
import Derived.Lib.OthersKept
import Derived.Laws.RangeAny
import Derived.Maps.OwnOps
import Derived.Maps.Views
import Derived.ChangeSlices
import Derived.ChangeArms
import Derived.Deep.DeepAppendWide
import Derived.OrdersIn
import Derived.TacticsIn
import Derived.RangeFuncNested
import Derived.RangeFuncBound
import Derived.RangeFuncCalls
import Derived.RangeFuncLeaves
import Derived.Maps.AppendAt
import Derived.Shelf.Abstract
import Derived.OwnWalkIn
import Derived.TacticsInMore
import Derived.LoopNIn
import Derived.LoopIn
import Derived.Stop.LaidErr
import Derived.Test.YtfkmfccdhmnllaaDoorSC2

section
namespace Go.Proofs.YtfkmfccdhmnllaaDoor
open Go.RowKit Go Go.Sort
set_option linter.unusedVariables false
set_option maxRecDepth 20000

/-- What of a change's head may not be. -/
def headBad (site seq n s a b : Int) (m : Nat) : Bool :=
  (site != 1 && site != 2) || decide (seq < 1) || decide (1099511627776 < seq) || !sgood n s || (s != site) || !vgood a b || ((if site = 1 then a else b) != seq) || decide ((m : Int) < 1) || decide (8 < (m : Int))
/-- What a guarded operation tells. -/
def vIf (b need : Bool) (v : Value) : Value := if b = need then v else undef
theorem vIf_tt (v : Value) : vIf true true v = v := rfl
theorem vIf_ff (v : Value) : vIf false false v = v := rfl
theorem vIf_tf (v : Value) : vIf true false v = undef := rfl
theorem vIf_ft (v : Value) : vIf false true v = undef := rfl
/-- Whether the write at a place may be there. -/
def wAt (n1 : Nat) (l : List Wr) (k : Nat) : Bool := mayS n1 (l.getD k Wr.zero) && (decide (k = 0) || aheadS (l.getD (k - 1) Wr.zero) (l.getD k Wr.zero))
def chgoodS (gs : List Grp) (site seq n s a b : Int) (l : List Wr) : Int := if ¬ pgoodS gs = 0 then pgoodS gs else if headBad site seq n s a b l.length = true then 120 else if (List.range l.length).all (wAt gs.length l) = true then 0 else 120
theorem ch_pol {gs : List Grp} {site seq n s a b : Int} {l : List Wr} (h : ¬ pgoodS gs = 0) : chgoodS gs site seq n s a b l = pgoodS gs := by unfold chgoodS; rw [if_pos h]
theorem ch_head {gs : List Grp} {site seq n s a b : Int} {l : List Wr} (h : pgoodS gs = 0) (h2 : headBad site seq n s a b l.length = true) : chgoodS gs site seq n s a b l = 120 := by unfold chgoodS; rw [if_neg (not_not_intro h), if_pos h2]
theorem ch_bad {gs : List Grp} {site seq n s a b : Int} {l : List Wr} (h : pgoodS gs = 0) (h2 : headBad site seq n s a b l.length = false) {k : Nat} (hk : k < l.length) (hb : wAt gs.length l k = false) : chgoodS gs site seq n s a b l = 120 := by
  unfold chgoodS
  rw [if_neg (not_not_intro h), if_neg (by rw [h2]; decide), if_neg]
  intro ha
  have := List.all_eq_true.1 ha k (List.mem_range.2 hk)
  rw [hb] at this
  cases this
theorem ch_yes {gs : List Grp} {site seq n s a b : Int} {l : List Wr} (h : pgoodS gs = 0) (h2 : headBad site seq n s a b l.length = false) (ha : ∀ k, k < l.length → wAt gs.length l k = true) : chgoodS gs site seq n s a b l = 0 := by
  unfold chgoodS
  rw [if_neg (not_not_intro h), if_neg (by rw [h2]; decide), if_pos]
  exact List.all_eq_true.2 fun k hk => ha k (List.mem_range.1 hk)
theorem ch_inv {gs : List Grp} {site seq n s a b : Int} {l : List Wr} (h : chgoodS gs site seq n s a b l = 0) : pgoodS gs = 0 ∧ headBad site seq n s a b l.length = false ∧ ∀ k, k < l.length → wAt gs.length l k = true := by
  unfold chgoodS at h
  by_cases h1 : pgoodS gs = 0
  · rw [if_neg (not_not_intro h1)] at h
    by_cases h2 : headBad site seq n s a b l.length = true
    · rw [if_pos h2] at h; cases h
    · rw [if_neg h2] at h
      by_cases h3 : (List.range l.length).all (wAt gs.length l) = true
      · exact ⟨h1, by simpa using h2, fun k hk => List.all_eq_true.1 h3 k (List.mem_range.2 hk)⟩
      · rw [if_neg h3] at h; cases h
  · rw [if_pos h1] at h; exact absurd h h1
theorem ch_cells {W : World} {q : Nat} {site seq n s a b : Int} {x2 : Option Addr} {m cap2 : Nat} (h : W.heap[q]? = some (.cells #[.int .i64 site, .int .i64 seq, .int .i64 n, .int .i64 s, .int .i64 a, .int .i64 b, .slice x2 m cap2] 29 (0, 0))) :
    W.cell? ⟨q, 0, none⟩ = some (.int .i64 site) ∧ W.cell? ⟨q, 1, none⟩ = some (.int .i64 seq) ∧ W.cell? ⟨q, 2, none⟩ = some (.int .i64 n) ∧ W.cell? ⟨q, 3, none⟩ = some (.int .i64 s) ∧ W.cell? ⟨q, 4, none⟩ = some (.int .i64 a) ∧ W.cell? ⟨q, 5, none⟩ = some (.int .i64 b) ∧ W.cell? ⟨q, 6, none⟩ = some (.slice x2 m cap2) := by
  refine ⟨?_, ?_, ?_, ?_, ?_, ?_, ?_⟩ <;> (rw [cell_of_row _ q _ _ _ (0, 0) h]; rfl)
theorem wr_mem {l : List Wr} {k : Nat} (h : k < l.length) : l.getD k Wr.zero ∈ l := by
  rw [List.getD_eq_getElem?_getD, List.getElem?_eq_getElem h]; exact List.getElem_mem _
/-- The writes are short. -/
def WShort (l : List Wr) : Prop := ∀ c ∈ l, c.k.length ≤ 9223372036854775807 ∧ c.v.length ≤ 9223372036854775807

set_option maxRecDepth 100000 in
set_option maxHeartbeats 12800000 in
theorem rchgood_c {w : World} {x x2 : Option Addr} {n1 cap m cap2 : Nat} {gs : List Grp} {l : List Wr} (hg : Grs w x n1 cap gs) (hs : ∀ g ∈ gs, g.1.length ≤ 9223372036854775807) (hl : Wrs w x2 m cap2 l) (hx : WShort l) (site seq n s a b : Int) :
    Calls Tryd.prog 14 #[.slice x n1 cap, .agg #[.int .i64 site, .int .i64 seq, .int .i64 n, .int .i64 s, .int .i64 a, .int .i64 b, .slice x2 m cap2]] w (Tells (.int .i64 (chgoodS gs site seq n s a b l)) w) := by
  have hgl := hg.len
  have hll := hl.len
  have hle1 := hg.le
  have hmax1 := hg.max
  have hle2 := hl.le
  have hmax2 := hl.max
  have HPG := Lib.hid (fun W (h : Below w.heap.size w W) => rpgood_c (hg.below h) hs)
  have HL := Lib.hid hl
  have HXS := Lib.hid hx
  have H0 := Lib.hid (@ch_pol gs site seq n s a b l)
  have H1 := Lib.hid (@ch_head gs site seq n s a b l)
  have H2 := Lib.hid (fun (h : pgoodS gs = 0) (h2 : headBad site seq n s a b l.length = false) (k : Nat) => @ch_bad gs site seq n s a b l h h2 k)
  have H3 := Lib.hid (@ch_yes gs site seq n s a b l)
  have HHB := Lib.hid (show headBad site seq n s a b m = ((site != 1 && site != 2) || decide (seq < 1) || decide (1099511627776 < seq) || !sgood n s || (s != site) || !vgood a b || ((if site = 1 then a else b) != seq) || decide ((m : Int) < 1) || decide (8 < (m : Int))) from rfl)
  obtain ⟨R, hR⟩ : ∃ z, chgoodS gs site seq n s a b l = z := ⟨_, rfl⟩
  obtain ⟨P0, hP⟩ : ∃ z, pgoodS gs = z := ⟨_, rfl⟩
  obtain ⟨HD, hHD⟩ : ∃ z, headBad site seq n s a b m = z := ⟨_, rfl⟩
  rw [hR, hP] at H0
  rw [hR, hP, hll, hHD] at H1
  rw [hR, hP, hll, hHD, hgl] at H2 H3
  rw [hHD] at HHB
  simp only [hP] at HPG
  rw [hR]
  have hr := heap_alloc_new w (.cells #[.int .i64 site, .int .i64 seq, .int .i64 n, .int .i64 s, .int .i64 a, .int .i64 b, .slice x2 m cap2] 29)
  have hb := alloc_below w (.cells #[.int .i64 site, .int .i64 seq, .int .i64 n, .int .i64 s, .int .i64 a, .int .i64 b, .slice x2 m cap2] 29)
  clear hR hP hHD hg hs hl hx
  go_enter Tryd.func14, Tryd.ntmps14
  go_upto_region 1 with (fail)
  obtain ⟨B, hB⟩ : ∃ q, w.heap.size = q := ⟨_, rfl⟩
  rw [hB] at hr ⊢
  clear hB
  generalize w.alloc (.cells #[.int .i64 site, .int .i64 seq, .int .i64 n, .int .i64 s, .int .i64 a, .int .i64 b, .slice x2 m cap2] 29) = W1 at *
  have HR1 := Lib.hid hr
  have HB1 := Lib.hid hb
  clear hr hb
  go_upto_region 2 with (go_at_call 36; (with_reducible refine (HPG.out _ HB1.out).mono ?_); rintro e9 w2 ⟨rfl, hb2⟩)
  have HB2 := Lib.hid (HB1.out.trans (hb2.mono HB1.out.size))
  have HR2 := Lib.hid (heap_below HR1.out hb2)
  clear hb2 HB1 HR1 HPG
  by_cases h0 : P0 = 0
  · subst h0
    have H1a := Lib.hid (H1.out (by first | rfl | trivial))
    have H2a := Lib.hid (H2.out (by first | rfl | trivial))
    have H3a := Lib.hid (H3.out (by first | rfl | trivial))
    have HCW := Lib.hid (fun W (h : Below w2.heap.size w2 W) => ch_cells (heap_below HR2.out h))
    have HSG := Lib.hid (fun W => rsgood_c n s W)
    have HVG := Lib.hid (fun W => rvgood_c a b W)
    obtain ⟨SG, hSG⟩ : ∃ z, sgood n s = z := ⟨_, rfl⟩
    obtain ⟨VG, hVG⟩ : ∃ z, vgood a b = z := ⟨_, rfl⟩
    rw [hSG, hVG] at HHB
    simp only [hSG] at HSG
    simp only [hVG] at HVG
    obtain ⟨q1, hq1⟩ : ∃ z, (site != 1) = z := ⟨_, rfl⟩
    obtain ⟨q2, hq2⟩ : ∃ z, (site != 2) = z := ⟨_, rfl⟩
    obtain ⟨q3, hq3⟩ : ∃ z, decide (seq < 1) = z := ⟨_, rfl⟩
    obtain ⟨q4, hq4⟩ : ∃ z, decide (1099511627776 < seq) = z := ⟨_, rfl⟩
    obtain ⟨q6, hq6⟩ : ∃ z, (s != site) = z := ⟨_, rfl⟩
    obtain ⟨q8, hq8⟩ : ∃ z, ((if site = 1 then a else b) != seq) = z := ⟨_, rfl⟩
    obtain ⟨q9, hq9⟩ : ∃ z, decide ((m : Int) < 1) = z := ⟨_, rfl⟩
    obtain ⟨q10, hq10⟩ : ∃ z, decide (8 < (m : Int)) = z := ⟨_, rfl⟩
    rw [hq1, hq2, hq3, hq4, hq6, hq8, hq9, hq10] at HHB
    obtain ⟨A, hA⟩ : ∃ z, (q1 && q2) = z := ⟨_, rfl⟩
    have HA9 := Lib.hid hA
    rw [hA] at HHB
    obtain ⟨Bb, hBb⟩ : ∃ z, (A || q3) = z := ⟨_, rfl⟩
    have HBb9 := Lib.hid hBb
    rw [hBb] at HHB
    obtain ⟨C, hC⟩ : ∃ z, (Bb || q4) = z := ⟨_, rfl⟩
    have HC9 := Lib.hid hC
    rw [hC] at HHB
    obtain ⟨D, hD⟩ : ∃ z, (C || !SG) = z := ⟨_, rfl⟩
    have HD9 := Lib.hid hD
    rw [hD] at HHB
    obtain ⟨E, hE⟩ : ∃ z, (D || q6) = z := ⟨_, rfl⟩
    have HE9 := Lib.hid hE
    rw [hE] at HHB
    obtain ⟨F, hF⟩ : ∃ z, (E || !VG) = z := ⟨_, rfl⟩
    have HF9 := Lib.hid hF
    rw [hF] at HHB
    obtain ⟨G, hG⟩ : ∃ z, (F || q8) = z := ⟨_, rfl⟩
    have HG9 := Lib.hid hG
    rw [hG] at HHB
    obtain ⟨H, hH⟩ : ∃ z, (G || q9) = z := ⟨_, rfl⟩
    have HH9 := Lib.hid hH
    rw [hH] at HHB
    have HI9 := Lib.hid HHB.out.symm
    have HSITE := Lib.hid (show F = false → ∃ (z : Nat) (VV : Int), site - 1 = (z : Int) ∧ z < 2 ∧ (VV != seq) = q8 ∧ -9223372036854775808 ≤ site - 1 ∧ site - 1 ≤ 9223372036854775807 ∧ ((z = 0 ∧ VV = a) ∨ (z = 1 ∧ VV = b)) from fun hFF => by
      have hA0 : A = false := by
        rw [← hF, ← hE, ← hD, ← hC, ← hBb] at hFF
        cases A with
        | false => rfl
        | true => simp at hFF
      rw [← hA] at hA0
      have : site = 1 ∨ site = 2 := by
        rw [← hq1, ← hq2] at hA0
        simp at hA0
        omega
      rcases this with rfl | rfl
      · exact ⟨0, a, by decide, by decide, by rw [← hq8]; rfl, by decide, by decide, .inl ⟨rfl, rfl⟩⟩
      · exact ⟨1, b, by decide, by decide, by rw [← hq8]; rfl, by decide, by decide, .inr ⟨rfl, rfl⟩⟩)
    clear HHB hA hBb hC hD hE hF hG hH
    obtain ⟨zz, VV, hzz⟩ : ∃ (z : Nat) (VV : Int), (F = false → site - 1 = (z : Int) ∧ z < 2 ∧ (VV != seq) = q8 ∧ -9223372036854775808 ≤ site - 1 ∧ site - 1 ≤ 9223372036854775807 ∧ ((z = 0 ∧ VV = a) ∨ (z = 1 ∧ VV = b))) := by
      cases hF : F with
      | true => exact ⟨0, 0, fun h => by cases h⟩
      | false =>
        obtain ⟨z, VV, h⟩ := HSITE.out hF
        exact ⟨z, VV, fun _ => h⟩
    have HZZ := Lib.hid hzz
    clear hzz HSITE hq8
    clear hSG hVG H0 H1 H2 H3
    go_upto_region 4 with (fail)
    refine wp_region_flow [none, none, none, none, none, none, none, none, none, none, none, none, some 0, some 1, some 2, some 3, some 4, some 5, some 6, some 7, some 8, some 9, some 10, some 11, some 12, some 13, some 14, some 15, some 16, some 17, some 18, some 19, some 20, some 21, some 22, some 23, some 24, some 25, some 26, some 27, some 28, some 29, some 30, some 31, some 32, some 33, some 34, some 35, some 36, some 37, some 38, some 39, some 40, some 41, some 42, some 43, some 44, some 45, some 46, some 47, some 48, some 49, some 50, some 51, some 52, some 53, some 54, some 55, some 56, some 57, some 58, some 59, some 60, none, none, none, none, none, none, none, none, none, none, none, none, none, none, none, none, none, none, none, none, none, none, none, none, none, none, none, none, none, none, none, none, none, none] (fun i => [undef, undef, undef, undef, undef, undef, undef, undef, undef, undef, undef, undef, undef, undef, undef, undef, undef, undef, undef, undef, undef, undef, undef, undef, undef, undef, undef, undef, undef, undef, undef, undef, undef, undef, undef, undef, undef, undef, undef, undef, undef, undef, undef, undef, undef, undef, undef, undef, undef, undef, undef, undef, undef, undef, undef, undef, undef, undef, undef, undef, undef].getD i undef) [(fun v _ => v = .pointer (some ⟨B, 0, none⟩)), (fun v _ => v = .int .i64 site), (fun v _ => v = .bool q1), (fun v _ => v = .bool q1), (fun v _ => v = vIf q1 true (.pointer (some ⟨B, 0, none⟩))), (fun v _ => v = vIf q1 true (.int .i64 site)), (fun v _ => v = vIf q1 true (.bool q2)), (fun v _ => v = .bool A), (fun v _ => v = .bool A), (fun v _ => v = vIf A false (.pointer (some ⟨B, 1, none⟩))), (fun v _ => v = vIf A false (.int .i64 seq)), (fun v _ => v = vIf A false (.bool q3)), (fun v _ => v = .bool Bb), (fun v _ => v = .bool Bb), (fun v _ => v = vIf Bb false (.pointer (some ⟨B, 1, none⟩))), (fun v _ => v = vIf Bb false (.int .i64 seq)), (fun v _ => v = vIf Bb false (.bool q4)), (fun v _ => v = .bool C), (fun v _ => v = .bool C), (fun v _ => v = vIf C false (.pointer (some ⟨B, 2, none⟩))), (fun v _ => v = vIf C false (.agg #[.int .i64 n, .int .i64 s])), (fun v _ => v = vIf C false (.bool SG)), (fun v _ => v = vIf C false (.bool (!SG))), (fun v _ => v = .bool D), (fun v _ => v = .bool D), (fun v _ => v = vIf D false (.pointer (some ⟨B, 2, none⟩))), (fun v _ => v = vIf D false (.pointer (some ⟨B, 3, none⟩))), (fun v _ => v = vIf D false (.int .i64 s)), (fun v _ => v = vIf D false (.pointer (some ⟨B, 0, none⟩))), (fun v _ => v = vIf D false (.int .i64 site)), (fun v _ => v = vIf D false (.bool q6)), (fun v _ => v = .bool E), (fun v _ => v = .bool E), (fun v _ => v = vIf E false (.pointer (some ⟨B, 4, none⟩))), (fun v _ => v = vIf E false (.agg #[.int .i64 a, .int .i64 b])), (fun v _ => v = vIf E false (.bool VG)), (fun v _ => v = vIf E false (.bool (!VG))), (fun v _ => v = .bool F), (fun v _ => v = .bool F), (fun v _ => v = vIf F false (.pointer (some ⟨B, 0, none⟩))), (fun v _ => v = vIf F false (.int .i64 site)), (fun v _ => v = vIf F false (.int .i64 (zz : Int))), (fun v _ => v = vIf F false (.pointer (some ⟨B, 4, none⟩))), (fun v _ => v = vIf F false (.pointer (some ⟨B, 4 + zz, none⟩))), (fun v _ => v = vIf F false (.int .i64 VV)), (fun v _ => v = vIf F false (.pointer (some ⟨B, 1, none⟩))), (fun v _ => v = vIf F false (.int .i64 seq)), (fun v _ => v = vIf F false (.bool q8)), (fun v _ => v = .bool G), (fun v _ => v = .bool G), (fun v _ => v = vIf G false (.pointer (some ⟨B, 6, none⟩))), (fun v _ => v = vIf G false (.slice x2 m cap2)), (fun v _ => v = vIf G false (.int .i64 (m : Int))), (fun v _ => v = vIf G false (.bool q9)), (fun v _ => v = .bool H), (fun v _ => v = .bool H), (fun v _ => v = vIf H false (.pointer (some ⟨B, 6, none⟩))), (fun v _ => v = vIf H false (.slice x2 m cap2)), (fun v _ => v = vIf H false (.int .i64 (m : Int))), (fun v _ => v = vIf H false (.bool q10)), (fun v _ => v = .bool HD)] (by kernel_rfl) (by kernel_rfl) rfl rfl rfl ?_ ?_ ?_
    · intro g hg v X Y hX hY hv
      simp only [List.mem_cons, List.not_mem_nil, or_false] at hg
      rcases hg with rfl | rfl | rfl | rfl | rfl | rfl | rfl | rfl | rfl | rfl | rfl | rfl | rfl | rfl | rfl | rfl | rfl | rfl | rfl | rfl | rfl | rfl | rfl | rfl | rfl | rfl | rfl | rfl | rfl | rfl | rfl | rfl | rfl | rfl | rfl | rfl | rfl | rfl | rfl | rfl | rfl | rfl | rfl | rfl | rfl | rfl | rfl | rfl | rfl | rfl | rfl | rfl | rfl | rfl | rfl | rfl | rfl | rfl | rfl | rfl | rfl
      all_goals first
        | exact hv
        | exact hv.kept hY
    · simp only [flowOps, and_true]
      refine ⟨?_, ?_, ?_, ?_, ?_, ?_, ?_, ?_, ?_, ?_, ?_, ?_, ?_, ?_, ?_, ?_, ?_, ?_, ?_, ?_, ?_, ?_, ?_, ?_, ?_, ?_, ?_, ?_, ?_, ?_, ?_, ?_, ?_, ?_, ?_, ?_, ?_, ?_, ?_, ?_, ?_, ?_, ?_, ?_, ?_, ?_, ?_, ?_, ?_, ?_, ?_, ?_, ?_, ?_, ?_, ?_, ?_, ?_, ?_, ?_, ?_⟩
      · intro xs W hW hn
        simp only [flowAct, List.zipWith_cons_cons, List.zipWith_nil_left]
        go_wp2_with (fail)
        exact ⟨rfl, _, rfl, Below.refl _ _, rfl⟩
      · intro xs W hW hn
        obtain ⟨c0, c1, c2, c3, c4, c5, c6⟩ := HCW.out W hW
        simp [flowNeeds, Region.binds] at hn
        simp only [flowAct, List.zipWith_cons_cons, List.zipWith_nil_left]
        try simp only [hn]
        go_wp2_with (fail)
        all_goals exact ⟨rfl, _, rfl, Below.refl _ _, rfl⟩
      · intro xs W hW hn
        simp [flowNeeds, Region.binds] at hn
        simp only [flowAct, List.zipWith_cons_cons, List.zipWith_nil_left]
        try simp only [hn]
        have hqq := hq1
        go_wp2_with (fail)
        all_goals exact ⟨rfl, _, rfl, Below.refl _ _, rfl⟩
      · intro xs W hW hn
        simp [flowNeeds, Region.binds] at hn
        simp only [flowAct, List.zipWith_cons_cons, List.zipWith_nil_left]
        try simp only [hn]
        go_wp2_with (fail)
        all_goals exact ⟨rfl, _, rfl, Below.refl _ _, rfl⟩
      · intro xs W hW hn
        simp [flowNeeds, Region.binds] at hn
        simp only [flowAct, List.zipWith_cons_cons, List.zipWith_nil_left]
        cases hq : q1 with
        | true =>
          try rw [hq] at hn
          repeat rw [vIf_tt] at hn
          repeat rw [vIf_ff] at hn
          repeat rw [vIf_tf] at hn
          repeat rw [vIf_ft] at hn
          try simp at hn
          try simp only [hn]
          go_wp2_with (fail)
          exact ⟨rfl, _, rfl, Below.refl _ _, by first | rfl | simp [vIf]⟩
        | false =>
          try rw [hq] at hn
          repeat rw [vIf_tt] at hn
          repeat rw [vIf_ff] at hn
          repeat rw [vIf_tf] at hn
          repeat rw [vIf_ft] at hn
          try simp at hn
          try simp only [hn]
          go_wp2_with (fail)
          exact ⟨rfl, _, rfl, Below.refl _ _, by first | rfl | simp [vIf]⟩
      · intro xs W hW hn
        obtain ⟨c0, c1, c2, c3, c4, c5, c6⟩ := HCW.out W hW
        simp [flowNeeds, Region.binds] at hn
        simp only [flowAct, List.zipWith_cons_cons, List.zipWith_nil_left]
        cases hq : q1 with
        | true =>
          try rw [hq] at hn
          repeat rw [vIf_tt] at hn
          repeat rw [vIf_ff] at hn
          repeat rw [vIf_tf] at hn
          repeat rw [vIf_ft] at hn
          try simp at hn
          try simp only [hn]
          go_wp2_with (fail)
          exact ⟨rfl, _, rfl, Below.refl _ _, by first | rfl | simp [vIf]⟩
        | false =>
          try rw [hq] at hn
          repeat rw [vIf_tt] at hn
          repeat rw [vIf_ff] at hn
          repeat rw [vIf_tf] at hn
          repeat rw [vIf_ft] at hn
          try simp at hn
          try simp only [hn]
          go_wp2_with (fail)
          exact ⟨rfl, _, rfl, Below.refl _ _, by first | rfl | simp [vIf]⟩
      · intro xs W hW hn
        simp [flowNeeds, Region.binds] at hn
        simp only [flowAct, List.zipWith_cons_cons, List.zipWith_nil_left]
        cases hq : q1 with
        | true =>
          try rw [hq] at hn
          repeat rw [vIf_tt] at hn
          repeat rw [vIf_ff] at hn
          repeat rw [vIf_tf] at hn
          repeat rw [vIf_ft] at hn
          try simp at hn
          try simp only [hn]
          go_wp2_with (fail)
          exact ⟨rfl, _, rfl, Below.refl _ _, by first | rfl | simp [vIf]⟩
        | false =>
          try rw [hq] at hn
          repeat rw [vIf_tt] at hn
          repeat rw [vIf_ff] at hn
          repeat rw [vIf_tf] at hn
          repeat rw [vIf_ft] at hn
          try simp at hn
          try simp only [hn]
          go_wp2_with (fail)
          exact ⟨rfl, _, rfl, Below.refl _ _, by first | rfl | simp [vIf]⟩
      · intro xs W hW hn
        simp [flowNeeds, Region.binds] at hn
        simp only [flowAct, List.zipWith_cons_cons, List.zipWith_nil_left]
        cases hq : q1 with
        | true =>
          try rw [hq] at hn
          repeat rw [vIf_tt] at hn
          repeat rw [vIf_ff] at hn
          repeat rw [vIf_tf] at hn
          repeat rw [vIf_ft] at hn
          try simp at hn
          simp only [hn]
          go_wp2_with (fail)
          exact ⟨rfl, _, rfl, Below.refl _ _, by rw [← HA9.out, hq]; first | rfl | simp⟩
        | false =>
          try rw [hq] at hn
          repeat rw [vIf_tt] at hn
          repeat rw [vIf_ff] at hn
          repeat rw [vIf_tf] at hn
          repeat rw [vIf_ft] at hn
          try simp at hn
          simp only [hn]
          go_wp2_with (fail)
          exact ⟨rfl, _, rfl, Below.refl _ _, by rw [← HA9.out, hq]; first | rfl | simp⟩
      · intro xs W hW hn
        simp [flowNeeds, Region.binds] at hn
        simp only [flowAct, List.zipWith_cons_cons, List.zipWith_nil_left]
        try simp only [hn]
        go_wp2_with (fail)
        all_goals exact ⟨rfl, _, rfl, Below.refl _ _, rfl⟩
      · intro xs W hW hn
        simp [flowNeeds, Region.binds] at hn
        simp only [flowAct, List.zipWith_cons_cons, List.zipWith_nil_left]
        cases hq : A with
        | true =>
          try rw [hq] at hn
          repeat rw [vIf_tt] at hn
          repeat rw [vIf_ff] at hn
          repeat rw [vIf_tf] at hn
          repeat rw [vIf_ft] at hn
          try simp at hn
          try simp only [hn]
          go_wp2_with (fail)
          exact ⟨rfl, _, rfl, Below.refl _ _, by first | rfl | simp [vIf]⟩
        | false =>
          try rw [hq] at hn
          repeat rw [vIf_tt] at hn
          repeat rw [vIf_ff] at hn
          repeat rw [vIf_tf] at hn
          repeat rw [vIf_ft] at hn
          try simp at hn
          try simp only [hn]
          go_wp2_with (fail)
          exact ⟨rfl, _, rfl, Below.refl _ _, by first | rfl | simp [vIf]⟩
      · intro xs W hW hn
        obtain ⟨c0, c1, c2, c3, c4, c5, c6⟩ := HCW.out W hW
        simp [flowNeeds, Region.binds] at hn
        simp only [flowAct, List.zipWith_cons_cons, List.zipWith_nil_left]
        cases hq : A with
        | true =>
          try rw [hq] at hn
          repeat rw [vIf_tt] at hn
          repeat rw [vIf_ff] at hn
          repeat rw [vIf_tf] at hn
          repeat rw [vIf_ft] at hn
          try simp at hn
          try simp only [hn]
          go_wp2_with (fail)
          exact ⟨rfl, _, rfl, Below.refl _ _, by first | rfl | simp [vIf]⟩
        | false =>
          try rw [hq] at hn
          repeat rw [vIf_tt] at hn
          repeat rw [vIf_ff] at hn
          repeat rw [vIf_tf] at hn
          repeat rw [vIf_ft] at hn
          try simp at hn
          try simp only [hn]
          go_wp2_with (fail)
          exact ⟨rfl, _, rfl, Below.refl _ _, by first | rfl | simp [vIf]⟩
      · intro xs W hW hn
        simp [flowNeeds, Region.binds] at hn
        simp only [flowAct, List.zipWith_cons_cons, List.zipWith_nil_left]
        cases hq : A with
        | true =>
          try rw [hq] at hn
          repeat rw [vIf_tt] at hn
          repeat rw [vIf_ff] at hn
          repeat rw [vIf_tf] at hn
          repeat rw [vIf_ft] at hn
          try simp at hn
          try simp only [hn]
          go_wp2_with (fail)
          exact ⟨rfl, _, rfl, Below.refl _ _, by first | rfl | simp [vIf]⟩
        | false =>
          try rw [hq] at hn
          repeat rw [vIf_tt] at hn
          repeat rw [vIf_ff] at hn
          repeat rw [vIf_tf] at hn
          repeat rw [vIf_ft] at hn
          try simp at hn
          try simp only [hn]
          go_wp2_with (fail)
          exact ⟨rfl, _, rfl, Below.refl _ _, by first | rfl | simp [vIf]⟩
      · intro xs W hW hn
        simp [flowNeeds, Region.binds] at hn
        simp only [flowAct, List.zipWith_cons_cons, List.zipWith_nil_left]
        cases hq : A with
        | true =>
          try rw [hq] at hn
          repeat rw [vIf_tt] at hn
          repeat rw [vIf_ff] at hn
          repeat rw [vIf_tf] at hn
          repeat rw [vIf_ft] at hn
          try simp at hn
          simp only [hn]
          go_wp2_with (fail)
          exact ⟨rfl, _, rfl, Below.refl _ _, by rw [← HBb9.out, hq]; first | rfl | simp⟩
        | false =>
          try rw [hq] at hn
          repeat rw [vIf_tt] at hn
          repeat rw [vIf_ff] at hn
          repeat rw [vIf_tf] at hn
          repeat rw [vIf_ft] at hn
          try simp at hn
          simp only [hn]
          go_wp2_with (fail)
          exact ⟨rfl, _, rfl, Below.refl _ _, by rw [← HBb9.out, hq]; first | rfl | simp⟩
      · intro xs W hW hn
        simp [flowNeeds, Region.binds] at hn
        simp only [flowAct, List.zipWith_cons_cons, List.zipWith_nil_left]
        try simp only [hn]
        go_wp2_with (fail)
        all_goals exact ⟨rfl, _, rfl, Below.refl _ _, rfl⟩
      · intro xs W hW hn
        simp [flowNeeds, Region.binds] at hn
        simp only [flowAct, List.zipWith_cons_cons, List.zipWith_nil_left]
        cases hq : Bb with
        | true =>
          try rw [hq] at hn
          repeat rw [vIf_tt] at hn
          repeat rw [vIf_ff] at hn
          repeat rw [vIf_tf] at hn
          repeat rw [vIf_ft] at hn
          try simp at hn
          try simp only [hn]
          go_wp2_with (fail)
          exact ⟨rfl, _, rfl, Below.refl _ _, by first | rfl | simp [vIf]⟩
        | false =>
          try rw [hq] at hn
          repeat rw [vIf_tt] at hn
          repeat rw [vIf_ff] at hn
          repeat rw [vIf_tf] at hn
          repeat rw [vIf_ft] at hn
          try simp at hn
          try simp only [hn]
          go_wp2_with (fail)
          exact ⟨rfl, _, rfl, Below.refl _ _, by first | rfl | simp [vIf]⟩
      · intro xs W hW hn
        obtain ⟨c0, c1, c2, c3, c4, c5, c6⟩ := HCW.out W hW
        simp [flowNeeds, Region.binds] at hn
        simp only [flowAct, List.zipWith_cons_cons, List.zipWith_nil_left]
        cases hq : Bb with
        | true =>
          try rw [hq] at hn
          repeat rw [vIf_tt] at hn
          repeat rw [vIf_ff] at hn
          repeat rw [vIf_tf] at hn
          repeat rw [vIf_ft] at hn
          try simp at hn
          try simp only [hn]
          go_wp2_with (fail)
          exact ⟨rfl, _, rfl, Below.refl _ _, by first | rfl | simp [vIf]⟩
        | false =>
          try rw [hq] at hn
          repeat rw [vIf_tt] at hn
          repeat rw [vIf_ff] at hn
          repeat rw [vIf_tf] at hn
          repeat rw [vIf_ft] at hn
          try simp at hn
          try simp only [hn]
          go_wp2_with (fail)
          exact ⟨rfl, _, rfl, Below.refl _ _, by first | rfl | simp [vIf]⟩
      · intro xs W hW hn
        simp [flowNeeds, Region.binds] at hn
        simp only [flowAct, List.zipWith_cons_cons, List.zipWith_nil_left]
        cases hq : Bb with
        | true =>
          try rw [hq] at hn
          repeat rw [vIf_tt] at hn
          repeat rw [vIf_ff] at hn
          repeat rw [vIf_tf] at hn
          repeat rw [vIf_ft] at hn
          try simp at hn
          try simp only [hn]
          go_wp2_with (fail)
          exact ⟨rfl, _, rfl, Below.refl _ _, by first | rfl | simp [vIf]⟩
        | false =>
          try rw [hq] at hn
          repeat rw [vIf_tt] at hn
          repeat rw [vIf_ff] at hn
          repeat rw [vIf_tf] at hn
          repeat rw [vIf_ft] at hn
          try simp at hn
          try simp only [hn]
          go_wp2_with (fail)
          exact ⟨rfl, _, rfl, Below.refl _ _, by first | rfl | simp [vIf]⟩
      · intro xs W hW hn
        simp [flowNeeds, Region.binds] at hn
        simp only [flowAct, List.zipWith_cons_cons, List.zipWith_nil_left]
        cases hq : Bb with
        | true =>
          try rw [hq] at hn
          repeat rw [vIf_tt] at hn
          repeat rw [vIf_ff] at hn
          repeat rw [vIf_tf] at hn
          repeat rw [vIf_ft] at hn
          try simp at hn
          simp only [hn]
          go_wp2_with (fail)
          exact ⟨rfl, _, rfl, Below.refl _ _, by rw [← HC9.out, hq]; first | rfl | simp⟩
        | false =>
          try rw [hq] at hn
          repeat rw [vIf_tt] at hn
          repeat rw [vIf_ff] at hn
          repeat rw [vIf_tf] at hn
          repeat rw [vIf_ft] at hn
          try simp at hn
          simp only [hn]
          go_wp2_with (fail)
          exact ⟨rfl, _, rfl, Below.refl _ _, by rw [← HC9.out, hq]; first | rfl | simp⟩
      · intro xs W hW hn
        simp [flowNeeds, Region.binds] at hn
        simp only [flowAct, List.zipWith_cons_cons, List.zipWith_nil_left]
        try simp only [hn]
        go_wp2_with (fail)
        all_goals exact ⟨rfl, _, rfl, Below.refl _ _, rfl⟩
      · intro xs W hW hn
        simp [flowNeeds, Region.binds] at hn
        simp only [flowAct, List.zipWith_cons_cons, List.zipWith_nil_left]
        cases hq : C with
        | true =>
          try rw [hq] at hn
          repeat rw [vIf_tt] at hn
          repeat rw [vIf_ff] at hn
          repeat rw [vIf_tf] at hn
          repeat rw [vIf_ft] at hn
          try simp at hn
          try simp only [hn]
          go_wp2_with (fail)
          exact ⟨rfl, _, rfl, Below.refl _ _, by first | rfl | simp [vIf]⟩
        | false =>
          try rw [hq] at hn
          repeat rw [vIf_tt] at hn
          repeat rw [vIf_ff] at hn
          repeat rw [vIf_tf] at hn
          repeat rw [vIf_ft] at hn
          try simp at hn
          try simp only [hn]
          go_wp2_with (fail)
          exact ⟨rfl, _, rfl, Below.refl _ _, by first | rfl | simp [vIf]⟩
      · intro xs W hW hn
        obtain ⟨c0, c1, c2, c3, c4, c5, c6⟩ := HCW.out W hW
        simp [flowNeeds, Region.binds] at hn
        simp only [flowAct, List.zipWith_cons_cons, List.zipWith_nil_left]
        cases hq : C with
        | true =>
          try rw [hq] at hn
          repeat rw [vIf_tt] at hn
          repeat rw [vIf_ff] at hn
          repeat rw [vIf_tf] at hn
          repeat rw [vIf_ft] at hn
          try simp at hn
          try simp only [hn]
          go_wp2_with (fail)
          exact ⟨rfl, _, rfl, Below.refl _ _, by first | rfl | simp [vIf]⟩
        | false =>
          try rw [hq] at hn
          repeat rw [vIf_tt] at hn
          repeat rw [vIf_ff] at hn
          repeat rw [vIf_tf] at hn
          repeat rw [vIf_ft] at hn
          try simp at hn
          try simp only [hn]
          go_wp2_with (fail)
          exact ⟨rfl, _, rfl, Below.refl _ _, by first | rfl | simp [vIf]⟩
      · intro xs W hW hn
        simp [flowNeeds, Region.binds] at hn
        simp only [flowAct, List.zipWith_cons_cons, List.zipWith_nil_left]
        cases hq : C with
        | true =>
          try rw [hq] at hn
          repeat rw [vIf_tt] at hn
          repeat rw [vIf_ff] at hn
          repeat rw [vIf_tf] at hn
          repeat rw [vIf_ft] at hn
          try simp at hn
          try simp only [hn]
          go_wp2_with (fail)
          exact ⟨rfl, _, rfl, Below.refl _ _, by first | rfl | simp [vIf]⟩
        | false =>
          try rw [hq] at hn
          repeat rw [vIf_tt] at hn
          repeat rw [vIf_ff] at hn
          repeat rw [vIf_tf] at hn
          repeat rw [vIf_ft] at hn
          try simp at hn
          try simp only [hn]
          go_wp2_with (go_at_call 37; (with_reducible refine (HSG.out _).mono ?_); rintro e9 w9 ⟨rfl, hb9⟩)
          all_goals exact ⟨rfl, _, rfl, hb9, by first | rfl | simp [vIf]⟩
      · intro xs W hW hn
        simp [flowNeeds, Region.binds] at hn
        simp only [flowAct, List.zipWith_cons_cons, List.zipWith_nil_left]
        cases hq : C with
        | true =>
          try rw [hq] at hn
          repeat rw [vIf_tt] at hn
          repeat rw [vIf_ff] at hn
          repeat rw [vIf_tf] at hn
          repeat rw [vIf_ft] at hn
          try simp at hn
          try simp only [hn]
          go_wp2_with (fail)
          exact ⟨rfl, _, rfl, Below.refl _ _, by first | rfl | simp [vIf]⟩
        | false =>
          try rw [hq] at hn
          repeat rw [vIf_tt] at hn
          repeat rw [vIf_ff] at hn
          repeat rw [vIf_tf] at hn
          repeat rw [vIf_ft] at hn
          try simp at hn
          try simp only [hn]
          go_wp2_with (fail)
          exact ⟨rfl, _, rfl, Below.refl _ _, by first | rfl | simp [vIf]⟩
      · intro xs W hW hn
        simp [flowNeeds, Region.binds] at hn
        simp only [flowAct, List.zipWith_cons_cons, List.zipWith_nil_left]
        cases hq : C with
        | true =>
          try rw [hq] at hn
          repeat rw [vIf_tt] at hn
          repeat rw [vIf_ff] at hn
          repeat rw [vIf_tf] at hn
          repeat rw [vIf_ft] at hn
          try simp at hn
          simp only [hn]
          go_wp2_with (fail)
          exact ⟨rfl, _, rfl, Below.refl _ _, by rw [← HD9.out, hq]; first | rfl | simp⟩
        | false =>
          try rw [hq] at hn
          repeat rw [vIf_tt] at hn
          repeat rw [vIf_ff] at hn
          repeat rw [vIf_tf] at hn
          repeat rw [vIf_ft] at hn
          try simp at hn
          simp only [hn]
          go_wp2_with (fail)
          exact ⟨rfl, _, rfl, Below.refl _ _, by rw [← HD9.out, hq]; first | rfl | simp⟩
      · intro xs W hW hn
        simp [flowNeeds, Region.binds] at hn
        simp only [flowAct, List.zipWith_cons_cons, List.zipWith_nil_left]
        try simp only [hn]
        go_wp2_with (fail)
        all_goals exact ⟨rfl, _, rfl, Below.refl _ _, rfl⟩
      · intro xs W hW hn
        simp [flowNeeds, Region.binds] at hn
        simp only [flowAct, List.zipWith_cons_cons, List.zipWith_nil_left]
        cases hq : D with
        | true =>
          try rw [hq] at hn
          repeat rw [vIf_tt] at hn
          repeat rw [vIf_ff] at hn
          repeat rw [vIf_tf] at hn
          repeat rw [vIf_ft] at hn
          try simp at hn
          try simp only [hn]
          go_wp2_with (fail)
          exact ⟨rfl, _, rfl, Below.refl _ _, by first | rfl | simp [vIf]⟩
        | false =>
          try rw [hq] at hn
          repeat rw [vIf_tt] at hn
          repeat rw [vIf_ff] at hn
          repeat rw [vIf_tf] at hn
          repeat rw [vIf_ft] at hn
          try simp at hn
          try simp only [hn]
          go_wp2_with (fail)
          exact ⟨rfl, _, rfl, Below.refl _ _, by first | rfl | simp [vIf]⟩
      · intro xs W hW hn
        simp [flowNeeds, Region.binds] at hn
        simp only [flowAct, List.zipWith_cons_cons, List.zipWith_nil_left]
        cases hq : D with
        | true =>
          try rw [hq] at hn
          repeat rw [vIf_tt] at hn
          repeat rw [vIf_ff] at hn
          repeat rw [vIf_tf] at hn
          repeat rw [vIf_ft] at hn
          try simp at hn
          try simp only [hn]
          go_wp2_with (fail)
          exact ⟨rfl, _, rfl, Below.refl _ _, by first | rfl | simp [vIf]⟩
        | false =>
          try rw [hq] at hn
          repeat rw [vIf_tt] at hn
          repeat rw [vIf_ff] at hn
          repeat rw [vIf_tf] at hn
          repeat rw [vIf_ft] at hn
          try simp at hn
          try simp only [hn]
          go_wp2_with (fail)
          exact ⟨rfl, _, rfl, Below.refl _ _, by first | rfl | simp [vIf]⟩
      · intro xs W hW hn
        obtain ⟨c0, c1, c2, c3, c4, c5, c6⟩ := HCW.out W hW
        simp [flowNeeds, Region.binds] at hn
        simp only [flowAct, List.zipWith_cons_cons, List.zipWith_nil_left]
        cases hq : D with
        | true =>
          try rw [hq] at hn
          repeat rw [vIf_tt] at hn
          repeat rw [vIf_ff] at hn
          repeat rw [vIf_tf] at hn
          repeat rw [vIf_ft] at hn
          try simp at hn
          try simp only [hn]
          go_wp2_with (fail)
          exact ⟨rfl, _, rfl, Below.refl _ _, by first | rfl | simp [vIf]⟩
        | false =>
          try rw [hq] at hn
          repeat rw [vIf_tt] at hn
          repeat rw [vIf_ff] at hn
          repeat rw [vIf_tf] at hn
          repeat rw [vIf_ft] at hn
          try simp at hn
          try simp only [hn]
          go_wp2_with (fail)
          exact ⟨rfl, _, rfl, Below.refl _ _, by first | rfl | simp [vIf]⟩
      · intro xs W hW hn
        simp [flowNeeds, Region.binds] at hn
        simp only [flowAct, List.zipWith_cons_cons, List.zipWith_nil_left]
        cases hq : D with
        | true =>
          try rw [hq] at hn
          repeat rw [vIf_tt] at hn
          repeat rw [vIf_ff] at hn
          repeat rw [vIf_tf] at hn
          repeat rw [vIf_ft] at hn
          try simp at hn
          try simp only [hn]
          go_wp2_with (fail)
          exact ⟨rfl, _, rfl, Below.refl _ _, by first | rfl | simp [vIf]⟩
        | false =>
          try rw [hq] at hn
          repeat rw [vIf_tt] at hn
          repeat rw [vIf_ff] at hn
          repeat rw [vIf_tf] at hn
          repeat rw [vIf_ft] at hn
          try simp at hn
          try simp only [hn]
          go_wp2_with (fail)
          exact ⟨rfl, _, rfl, Below.refl _ _, by first | rfl | simp [vIf]⟩
      · intro xs W hW hn
        obtain ⟨c0, c1, c2, c3, c4, c5, c6⟩ := HCW.out W hW
        simp [flowNeeds, Region.binds] at hn
        simp only [flowAct, List.zipWith_cons_cons, List.zipWith_nil_left]
        cases hq : D with
        | true =>
          try rw [hq] at hn
          repeat rw [vIf_tt] at hn
          repeat rw [vIf_ff] at hn
          repeat rw [vIf_tf] at hn
          repeat rw [vIf_ft] at hn
          try simp at hn
          try simp only [hn]
          go_wp2_with (fail)
          exact ⟨rfl, _, rfl, Below.refl _ _, by first | rfl | simp [vIf]⟩
        | false =>
          try rw [hq] at hn
          repeat rw [vIf_tt] at hn
          repeat rw [vIf_ff] at hn
          repeat rw [vIf_tf] at hn
          repeat rw [vIf_ft] at hn
          try simp at hn
          try simp only [hn]
          go_wp2_with (fail)
          exact ⟨rfl, _, rfl, Below.refl _ _, by first | rfl | simp [vIf]⟩
      · intro xs W hW hn
        simp [flowNeeds, Region.binds] at hn
        simp only [flowAct, List.zipWith_cons_cons, List.zipWith_nil_left]
        cases hq : D with
        | true =>
          try rw [hq] at hn
          repeat rw [vIf_tt] at hn
          repeat rw [vIf_ff] at hn
          repeat rw [vIf_tf] at hn
          repeat rw [vIf_ft] at hn
          try simp at hn
          try simp only [hn]
          go_wp2_with (fail)
          exact ⟨rfl, _, rfl, Below.refl _ _, by first | rfl | simp [vIf]⟩
        | false =>
          try rw [hq] at hn
          repeat rw [vIf_tt] at hn
          repeat rw [vIf_ff] at hn
          repeat rw [vIf_tf] at hn
          repeat rw [vIf_ft] at hn
          try simp at hn
          try simp only [hn]
          go_wp2_with (fail)
          exact ⟨rfl, _, rfl, Below.refl _ _, by first | rfl | simp [vIf]⟩
      · intro xs W hW hn
        simp [flowNeeds, Region.binds] at hn
        simp only [flowAct, List.zipWith_cons_cons, List.zipWith_nil_left]
        cases hq : D with
        | true =>
          try rw [hq] at hn
          repeat rw [vIf_tt] at hn
          repeat rw [vIf_ff] at hn
          repeat rw [vIf_tf] at hn
          repeat rw [vIf_ft] at hn
          try simp at hn
          simp only [hn]
          go_wp2_with (fail)
          exact ⟨rfl, _, rfl, Below.refl _ _, by rw [← HE9.out, hq]; first | rfl | simp⟩
        | false =>
          try rw [hq] at hn
          repeat rw [vIf_tt] at hn
          repeat rw [vIf_ff] at hn
          repeat rw [vIf_tf] at hn
          repeat rw [vIf_ft] at hn
          try simp at hn
          simp only [hn]
          go_wp2_with (fail)
          exact ⟨rfl, _, rfl, Below.refl _ _, by rw [← HE9.out, hq]; first | rfl | simp⟩
      · intro xs W hW hn
        simp [flowNeeds, Region.binds] at hn
        simp only [flowAct, List.zipWith_cons_cons, List.zipWith_nil_left]
        try simp only [hn]
        go_wp2_with (fail)
        all_goals exact ⟨rfl, _, rfl, Below.refl _ _, rfl⟩
      · intro xs W hW hn
        simp [flowNeeds, Region.binds] at hn
        simp only [flowAct, List.zipWith_cons_cons, List.zipWith_nil_left]
        cases hq : E with
        | true =>
          try rw [hq] at hn
          repeat rw [vIf_tt] at hn
          repeat rw [vIf_ff] at hn
          repeat rw [vIf_tf] at hn
          repeat rw [vIf_ft] at hn
          try simp at hn
          try simp only [hn]
          go_wp2_with (fail)
          exact ⟨rfl, _, rfl, Below.refl _ _, by first | rfl | simp [vIf]⟩
        | false =>
          try rw [hq] at hn
          repeat rw [vIf_tt] at hn
          repeat rw [vIf_ff] at hn
          repeat rw [vIf_tf] at hn
          repeat rw [vIf_ft] at hn
          try simp at hn
          try simp only [hn]
          go_wp2_with (fail)
          exact ⟨rfl, _, rfl, Below.refl _ _, by first | rfl | simp [vIf]⟩
      · intro xs W hW hn
        obtain ⟨c0, c1, c2, c3, c4, c5, c6⟩ := HCW.out W hW
        simp [flowNeeds, Region.binds] at hn
        simp only [flowAct, List.zipWith_cons_cons, List.zipWith_nil_left]
        cases hq : E with
        | true =>
          try rw [hq] at hn
          repeat rw [vIf_tt] at hn
          repeat rw [vIf_ff] at hn
          repeat rw [vIf_tf] at hn
          repeat rw [vIf_ft] at hn
          try simp at hn
          try simp only [hn]
          go_wp2_with (fail)
          exact ⟨rfl, _, rfl, Below.refl _ _, by first | rfl | simp [vIf]⟩
        | false =>
          try rw [hq] at hn
          repeat rw [vIf_tt] at hn
          repeat rw [vIf_ff] at hn
          repeat rw [vIf_tf] at hn
          repeat rw [vIf_ft] at hn
          try simp at hn
          try simp only [hn]
          go_wp2_with (fail)
          exact ⟨rfl, _, rfl, Below.refl _ _, by first | rfl | simp [vIf]⟩
      · intro xs W hW hn
        simp [flowNeeds, Region.binds] at hn
        simp only [flowAct, List.zipWith_cons_cons, List.zipWith_nil_left]
        cases hq : E with
        | true =>
          try rw [hq] at hn
          repeat rw [vIf_tt] at hn
          repeat rw [vIf_ff] at hn
          repeat rw [vIf_tf] at hn
          repeat rw [vIf_ft] at hn
          try simp at hn
          try simp only [hn]
          go_wp2_with (fail)
          exact ⟨rfl, _, rfl, Below.refl _ _, by first | rfl | simp [vIf]⟩
        | false =>
          try rw [hq] at hn
          repeat rw [vIf_tt] at hn
          repeat rw [vIf_ff] at hn
          repeat rw [vIf_tf] at hn
          repeat rw [vIf_ft] at hn
          try simp at hn
          try simp only [hn]
          go_wp2_with (go_at_call 38; (with_reducible refine (HVG.out _).mono ?_); rintro e9 w9 ⟨rfl, hb9⟩)
          all_goals exact ⟨rfl, _, rfl, hb9, by first | rfl | simp [vIf]⟩
      · intro xs W hW hn
        simp [flowNeeds, Region.binds] at hn
        simp only [flowAct, List.zipWith_cons_cons, List.zipWith_nil_left]
        cases hq : E with
        | true =>
          try rw [hq] at hn
          repeat rw [vIf_tt] at hn
          repeat rw [vIf_ff] at hn
          repeat rw [vIf_tf] at hn
          repeat rw [vIf_ft] at hn
          try simp at hn
          try simp only [hn]
          go_wp2_with (fail)
          exact ⟨rfl, _, rfl, Below.refl _ _, by first | rfl | simp [vIf]⟩
        | false =>
          try rw [hq] at hn
          repeat rw [vIf_tt] at hn
          repeat rw [vIf_ff] at hn
          repeat rw [vIf_tf] at hn
          repeat rw [vIf_ft] at hn
          try simp at hn
          try simp only [hn]
          go_wp2_with (fail)
          exact ⟨rfl, _, rfl, Below.refl _ _, by first | rfl | simp [vIf]⟩
      · intro xs W hW hn
        simp [flowNeeds, Region.binds] at hn
        simp only [flowAct, List.zipWith_cons_cons, List.zipWith_nil_left]
        cases hq : E with
        | true =>
          try rw [hq] at hn
          repeat rw [vIf_tt] at hn
          repeat rw [vIf_ff] at hn
          repeat rw [vIf_tf] at hn
          repeat rw [vIf_ft] at hn
          try simp at hn
          simp only [hn]
          go_wp2_with (fail)
          exact ⟨rfl, _, rfl, Below.refl _ _, by rw [← HF9.out, hq]; first | rfl | simp⟩
        | false =>
          try rw [hq] at hn
          repeat rw [vIf_tt] at hn
          repeat rw [vIf_ff] at hn
          repeat rw [vIf_tf] at hn
          repeat rw [vIf_ft] at hn
          try simp at hn
          simp only [hn]
          go_wp2_with (fail)
          exact ⟨rfl, _, rfl, Below.refl _ _, by rw [← HF9.out, hq]; first | rfl | simp⟩
      · intro xs W hW hn
        simp [flowNeeds, Region.binds] at hn
        simp only [flowAct, List.zipWith_cons_cons, List.zipWith_nil_left]
        try simp only [hn]
        go_wp2_with (fail)
        all_goals exact ⟨rfl, _, rfl, Below.refl _ _, rfl⟩
      · intro xs W hW hn
        simp [flowNeeds, Region.binds] at hn
        simp only [flowAct, List.zipWith_cons_cons, List.zipWith_nil_left]
        cases hq : F with
        | true =>
          try rw [hq] at hn
          repeat rw [vIf_tt] at hn
          repeat rw [vIf_ff] at hn
          repeat rw [vIf_tf] at hn
          repeat rw [vIf_ft] at hn
          try simp at hn
          try simp only [hn]
          go_wp2_with (fail)
          exact ⟨rfl, _, rfl, Below.refl _ _, by first | rfl | simp [vIf]⟩
        | false =>
          try rw [hq] at hn
          repeat rw [vIf_tt] at hn
          repeat rw [vIf_ff] at hn
          repeat rw [vIf_tf] at hn
          repeat rw [vIf_ft] at hn
          try simp at hn
          try simp only [hn]
          go_wp2_with (fail)
          exact ⟨rfl, _, rfl, Below.refl _ _, by first | rfl | simp [vIf]⟩
      · intro xs W hW hn
        obtain ⟨c0, c1, c2, c3, c4, c5, c6⟩ := HCW.out W hW
        simp [flowNeeds, Region.binds] at hn
        simp only [flowAct, List.zipWith_cons_cons, List.zipWith_nil_left]
        cases hq : F with
        | true =>
          try rw [hq] at hn
          repeat rw [vIf_tt] at hn
          repeat rw [vIf_ff] at hn
          repeat rw [vIf_tf] at hn
          repeat rw [vIf_ft] at hn
          try simp at hn
          try simp only [hn]
          go_wp2_with (fail)
          exact ⟨rfl, _, rfl, Below.refl _ _, by first | rfl | simp [vIf]⟩
        | false =>
          try rw [hq] at hn
          repeat rw [vIf_tt] at hn
          repeat rw [vIf_ff] at hn
          repeat rw [vIf_tf] at hn
          repeat rw [vIf_ft] at hn
          try simp at hn
          try simp only [hn]
          go_wp2_with (fail)
          exact ⟨rfl, _, rfl, Below.refl _ _, by first | rfl | simp [vIf]⟩
      · intro xs W hW hn
        simp [flowNeeds, Region.binds] at hn
        simp only [flowAct, List.zipWith_cons_cons, List.zipWith_nil_left]
        cases hq : F with
        | true =>
          try rw [hq] at hn
          repeat rw [vIf_tt] at hn
          repeat rw [vIf_ff] at hn
          repeat rw [vIf_tf] at hn
          repeat rw [vIf_ft] at hn
          try simp at hn
          try simp only [hn]
          go_wp2_with (fail)
          exact ⟨rfl, _, rfl, Below.refl _ _, by first | rfl | simp [vIf]⟩
        | false =>
          try rw [hq] at hn
          repeat rw [vIf_tt] at hn
          repeat rw [vIf_ff] at hn
          repeat rw [vIf_tf] at hn
          repeat rw [vIf_ft] at hn
          try simp at hn
          try simp only [hn]
          obtain ⟨z1, z2, z3, z4, z5, z8⟩ := HZZ.out hq
          clear z8 z3
          go_wp2_with (fail)
          exact ⟨rfl, _, rfl, Below.refl _ _, by first | rfl | (simp [vIf, z1])⟩
      · intro xs W hW hn
        simp [flowNeeds, Region.binds] at hn
        simp only [flowAct, List.zipWith_cons_cons, List.zipWith_nil_left]
        cases hq : F with
        | true =>
          try rw [hq] at hn
          repeat rw [vIf_tt] at hn
          repeat rw [vIf_ff] at hn
          repeat rw [vIf_tf] at hn
          repeat rw [vIf_ft] at hn
          try simp at hn
          try simp only [hn]
          go_wp2_with (fail)
          exact ⟨rfl, _, rfl, Below.refl _ _, by first | rfl | simp [vIf]⟩
        | false =>
          try rw [hq] at hn
          repeat rw [vIf_tt] at hn
          repeat rw [vIf_ff] at hn
          repeat rw [vIf_tf] at hn
          repeat rw [vIf_ft] at hn
          try simp at hn
          try simp only [hn]
          go_wp2_with (fail)
          exact ⟨rfl, _, rfl, Below.refl _ _, by first | rfl | simp [vIf]⟩
      · intro xs W hW hn
        simp [flowNeeds, Region.binds] at hn
        simp only [flowAct, List.zipWith_cons_cons, List.zipWith_nil_left]
        cases hq : F with
        | true =>
          try rw [hq] at hn
          repeat rw [vIf_tt] at hn
          repeat rw [vIf_ff] at hn
          repeat rw [vIf_tf] at hn
          repeat rw [vIf_ft] at hn
          try simp at hn
          try simp only [hn]
          go_wp2_with (fail)
          exact ⟨rfl, _, rfl, Below.refl _ _, by first | rfl | simp [vIf]⟩
        | false =>
          try rw [hq] at hn
          repeat rw [vIf_tt] at hn
          repeat rw [vIf_ff] at hn
          repeat rw [vIf_tf] at hn
          repeat rw [vIf_ft] at hn
          try simp at hn
          try simp only [hn]
          obtain ⟨z1, z2, z3, z4, z5, z8⟩ := HZZ.out hq
          have z6 : (zz : Int) < 2 := by omega
          clear z8 z3
          go_wp2_with (fail)
          exact ⟨rfl, _, rfl, Below.refl _ _, by first | rfl | simp [vIf]⟩
      · intro xs W hW hn
        obtain ⟨c0, c1, c2, c3, c4, c5, c6⟩ := HCW.out W hW
        simp [flowNeeds, Region.binds] at hn
        simp only [flowAct, List.zipWith_cons_cons, List.zipWith_nil_left]
        cases hq : F with
        | true =>
          try rw [hq] at hn
          repeat rw [vIf_tt] at hn
          repeat rw [vIf_ff] at hn
          repeat rw [vIf_tf] at hn
          repeat rw [vIf_ft] at hn
          try simp at hn
          try simp only [hn]
          go_wp2_with (fail)
          exact ⟨rfl, _, rfl, Below.refl _ _, by first | rfl | simp [vIf]⟩
        | false =>
          try rw [hq] at hn
          repeat rw [vIf_tt] at hn
          repeat rw [vIf_ff] at hn
          repeat rw [vIf_tf] at hn
          repeat rw [vIf_ft] at hn
          try simp at hn
          try simp only [hn]
          obtain ⟨z1, z2, z3, z4, z5, z8⟩ := HZZ.out hq
          have z7 : W.cell? ⟨B, 4 + zz, none⟩ = some (.int .i64 VV) := by
            rcases z8 with ⟨h, h2⟩ | ⟨h, h2⟩
            · rw [h, h2]; exact c4
            · rw [h, h2]; exact c5
          clear z8 z3
          go_wp2_with (fail)
          exact ⟨rfl, _, rfl, Below.refl _ _, by first | rfl | simp [vIf]⟩
      · intro xs W hW hn
        simp [flowNeeds, Region.binds] at hn
        simp only [flowAct, List.zipWith_cons_cons, List.zipWith_nil_left]
        cases hq : F with
        | true =>
          try rw [hq] at hn
          repeat rw [vIf_tt] at hn
          repeat rw [vIf_ff] at hn
          repeat rw [vIf_tf] at hn
          repeat rw [vIf_ft] at hn
          try simp at hn
          try simp only [hn]
          go_wp2_with (fail)
          exact ⟨rfl, _, rfl, Below.refl _ _, by first | rfl | simp [vIf]⟩
        | false =>
          try rw [hq] at hn
          repeat rw [vIf_tt] at hn
          repeat rw [vIf_ff] at hn
          repeat rw [vIf_tf] at hn
          repeat rw [vIf_ft] at hn
          try simp at hn
          try simp only [hn]
          go_wp2_with (fail)
          exact ⟨rfl, _, rfl, Below.refl _ _, by first | rfl | simp [vIf]⟩
      · intro xs W hW hn
        obtain ⟨c0, c1, c2, c3, c4, c5, c6⟩ := HCW.out W hW
        simp [flowNeeds, Region.binds] at hn
        simp only [flowAct, List.zipWith_cons_cons, List.zipWith_nil_left]
        cases hq : F with
        | true =>
          try rw [hq] at hn
          repeat rw [vIf_tt] at hn
          repeat rw [vIf_ff] at hn
          repeat rw [vIf_tf] at hn
          repeat rw [vIf_ft] at hn
          try simp at hn
          try simp only [hn]
          go_wp2_with (fail)
          exact ⟨rfl, _, rfl, Below.refl _ _, by first | rfl | simp [vIf]⟩
        | false =>
          try rw [hq] at hn
          repeat rw [vIf_tt] at hn
          repeat rw [vIf_ff] at hn
          repeat rw [vIf_tf] at hn
          repeat rw [vIf_ft] at hn
          try simp at hn
          try simp only [hn]
          go_wp2_with (fail)
          exact ⟨rfl, _, rfl, Below.refl _ _, by first | rfl | simp [vIf]⟩
      · intro xs W hW hn
        simp [flowNeeds, Region.binds] at hn
        simp only [flowAct, List.zipWith_cons_cons, List.zipWith_nil_left]
        cases hq : F with
        | true =>
          try rw [hq] at hn
          repeat rw [vIf_tt] at hn
          repeat rw [vIf_ff] at hn
          repeat rw [vIf_tf] at hn
          repeat rw [vIf_ft] at hn
          try simp at hn
          try simp only [hn]
          go_wp2_with (fail)
          exact ⟨rfl, _, rfl, Below.refl _ _, by first | rfl | simp [vIf]⟩
        | false =>
          try rw [hq] at hn
          repeat rw [vIf_tt] at hn
          repeat rw [vIf_ff] at hn
          repeat rw [vIf_tf] at hn
          repeat rw [vIf_ft] at hn
          try simp at hn
          try simp only [hn]
          obtain ⟨z1, z2, z3, z4, z5, z8⟩ := HZZ.out hq
          clear z8
          go_wp2_with (fail)
          exact ⟨rfl, _, rfl, Below.refl _ _, by first | rfl | simp [vIf]⟩
      · intro xs W hW hn
        simp [flowNeeds, Region.binds] at hn
        simp only [flowAct, List.zipWith_cons_cons, List.zipWith_nil_left]
        cases hq : F with
        | true =>
          try rw [hq] at hn
          repeat rw [vIf_tt] at hn
          repeat rw [vIf_ff] at hn
          repeat rw [vIf_tf] at hn
          repeat rw [vIf_ft] at hn
          try simp at hn
          simp only [hn]
          go_wp2_with (fail)
          exact ⟨rfl, _, rfl, Below.refl _ _, by rw [← HG9.out, hq]; first | rfl | simp⟩
        | false =>
          try rw [hq] at hn
          repeat rw [vIf_tt] at hn
          repeat rw [vIf_ff] at hn
          repeat rw [vIf_tf] at hn
          repeat rw [vIf_ft] at hn
          try simp at hn
          simp only [hn]
          go_wp2_with (fail)
          exact ⟨rfl, _, rfl, Below.refl _ _, by rw [← HG9.out, hq]; first | rfl | simp⟩
      · intro xs W hW hn
        simp [flowNeeds, Region.binds] at hn
        simp only [flowAct, List.zipWith_cons_cons, List.zipWith_nil_left]
        try simp only [hn]
        go_wp2_with (fail)
        all_goals exact ⟨rfl, _, rfl, Below.refl _ _, rfl⟩
      · intro xs W hW hn
        simp [flowNeeds, Region.binds] at hn
        simp only [flowAct, List.zipWith_cons_cons, List.zipWith_nil_left]
        cases hq : G with
        | true =>
          try rw [hq] at hn
          repeat rw [vIf_tt] at hn
          repeat rw [vIf_ff] at hn
          repeat rw [vIf_tf] at hn
          repeat rw [vIf_ft] at hn
          try simp at hn
          try simp only [hn]
          go_wp2_with (fail)
          exact ⟨rfl, _, rfl, Below.refl _ _, by first | rfl | simp [vIf]⟩
        | false =>
          try rw [hq] at hn
          repeat rw [vIf_tt] at hn
          repeat rw [vIf_ff] at hn
          repeat rw [vIf_tf] at hn
          repeat rw [vIf_ft] at hn
          try simp at hn
          try simp only [hn]
          go_wp2_with (fail)
          exact ⟨rfl, _, rfl, Below.refl _ _, by first | rfl | simp [vIf]⟩
      · intro xs W hW hn
        obtain ⟨c0, c1, c2, c3, c4, c5, c6⟩ := HCW.out W hW
        simp [flowNeeds, Region.binds] at hn
        simp only [flowAct, List.zipWith_cons_cons, List.zipWith_nil_left]
        cases hq : G with
        | true =>
          try rw [hq] at hn
          repeat rw [vIf_tt] at hn
          repeat rw [vIf_ff] at hn
          repeat rw [vIf_tf] at hn
          repeat rw [vIf_ft] at hn
          try simp at hn
          try simp only [hn]
          go_wp2_with (fail)
          exact ⟨rfl, _, rfl, Below.refl _ _, by first | rfl | simp [vIf]⟩
        | false =>
          try rw [hq] at hn
          repeat rw [vIf_tt] at hn
          repeat rw [vIf_ff] at hn
          repeat rw [vIf_tf] at hn
          repeat rw [vIf_ft] at hn
          try simp at hn
          try simp only [hn]
          go_wp2_with (fail)
          exact ⟨rfl, _, rfl, Below.refl _ _, by first | rfl | simp [vIf]⟩
      · intro xs W hW hn
        simp [flowNeeds, Region.binds] at hn
        simp only [flowAct, List.zipWith_cons_cons, List.zipWith_nil_left]
        cases hq : G with
        | true =>
          try rw [hq] at hn
          repeat rw [vIf_tt] at hn
          repeat rw [vIf_ff] at hn
          repeat rw [vIf_tf] at hn
          repeat rw [vIf_ft] at hn
          try simp at hn
          try simp only [hn]
          go_wp2_with (fail)
          exact ⟨rfl, _, rfl, Below.refl _ _, by first | rfl | simp [vIf]⟩
        | false =>
          try rw [hq] at hn
          repeat rw [vIf_tt] at hn
          repeat rw [vIf_ff] at hn
          repeat rw [vIf_tf] at hn
          repeat rw [vIf_ft] at hn
          try simp at hn
          try simp only [hn]
          go_wp2_with (fail)
          exact ⟨rfl, _, rfl, Below.refl _ _, by first | rfl | simp [vIf]⟩
      · intro xs W hW hn
        simp [flowNeeds, Region.binds] at hn
        simp only [flowAct, List.zipWith_cons_cons, List.zipWith_nil_left]
        cases hq : G with
        | true =>
          try rw [hq] at hn
          repeat rw [vIf_tt] at hn
          repeat rw [vIf_ff] at hn
          repeat rw [vIf_tf] at hn
          repeat rw [vIf_ft] at hn
          try simp at hn
          try simp only [hn]
          go_wp2_with (fail)
          exact ⟨rfl, _, rfl, Below.refl _ _, by first | rfl | simp [vIf]⟩
        | false =>
          try rw [hq] at hn
          repeat rw [vIf_tt] at hn
          repeat rw [vIf_ff] at hn
          repeat rw [vIf_tf] at hn
          repeat rw [vIf_ft] at hn
          try simp at hn
          try simp only [hn]
          go_wp2_with (fail)
          exact ⟨rfl, _, rfl, Below.refl _ _, by first | rfl | simp [vIf]⟩
      · intro xs W hW hn
        simp [flowNeeds, Region.binds] at hn
        simp only [flowAct, List.zipWith_cons_cons, List.zipWith_nil_left]
        cases hq : G with
        | true =>
          try rw [hq] at hn
          repeat rw [vIf_tt] at hn
          repeat rw [vIf_ff] at hn
          repeat rw [vIf_tf] at hn
          repeat rw [vIf_ft] at hn
          try simp at hn
          simp only [hn]
          go_wp2_with (fail)
          exact ⟨rfl, _, rfl, Below.refl _ _, by rw [← HH9.out, hq]; first | rfl | simp⟩
        | false =>
          try rw [hq] at hn
          repeat rw [vIf_tt] at hn
          repeat rw [vIf_ff] at hn
          repeat rw [vIf_tf] at hn
          repeat rw [vIf_ft] at hn
          try simp at hn
          simp only [hn]
          go_wp2_with (fail)
          exact ⟨rfl, _, rfl, Below.refl _ _, by rw [← HH9.out, hq]; first | rfl | simp⟩
      · intro xs W hW hn
        simp [flowNeeds, Region.binds] at hn
        simp only [flowAct, List.zipWith_cons_cons, List.zipWith_nil_left]
        try simp only [hn]
        go_wp2_with (fail)
        all_goals exact ⟨rfl, _, rfl, Below.refl _ _, rfl⟩
      · intro xs W hW hn
        simp [flowNeeds, Region.binds] at hn
        simp only [flowAct, List.zipWith_cons_cons, List.zipWith_nil_left]
        cases hq : H with
        | true =>
          try rw [hq] at hn
          repeat rw [vIf_tt] at hn
          repeat rw [vIf_ff] at hn
          repeat rw [vIf_tf] at hn
          repeat rw [vIf_ft] at hn
          try simp at hn
          try simp only [hn]
          go_wp2_with (fail)
          exact ⟨rfl, _, rfl, Below.refl _ _, by first | rfl | simp [vIf]⟩
        | false =>
          try rw [hq] at hn
          repeat rw [vIf_tt] at hn
          repeat rw [vIf_ff] at hn
          repeat rw [vIf_tf] at hn
          repeat rw [vIf_ft] at hn
          try simp at hn
          try simp only [hn]
          go_wp2_with (fail)
          exact ⟨rfl, _, rfl, Below.refl _ _, by first | rfl | simp [vIf]⟩
      · intro xs W hW hn
        obtain ⟨c0, c1, c2, c3, c4, c5, c6⟩ := HCW.out W hW
        simp [flowNeeds, Region.binds] at hn
        simp only [flowAct, List.zipWith_cons_cons, List.zipWith_nil_left]
        cases hq : H with
        | true =>
          try rw [hq] at hn
          repeat rw [vIf_tt] at hn
          repeat rw [vIf_ff] at hn
          repeat rw [vIf_tf] at hn
          repeat rw [vIf_ft] at hn
          try simp at hn
          try simp only [hn]
          go_wp2_with (fail)
          exact ⟨rfl, _, rfl, Below.refl _ _, by first | rfl | simp [vIf]⟩
        | false =>
          try rw [hq] at hn
          repeat rw [vIf_tt] at hn
          repeat rw [vIf_ff] at hn
          repeat rw [vIf_tf] at hn
          repeat rw [vIf_ft] at hn
          try simp at hn
          try simp only [hn]
          go_wp2_with (fail)
          exact ⟨rfl, _, rfl, Below.refl _ _, by first | rfl | simp [vIf]⟩
      · intro xs W hW hn
        simp [flowNeeds, Region.binds] at hn
        simp only [flowAct, List.zipWith_cons_cons, List.zipWith_nil_left]
        cases hq : H with
        | true =>
          try rw [hq] at hn
          repeat rw [vIf_tt] at hn
          repeat rw [vIf_ff] at hn
          repeat rw [vIf_tf] at hn
          repeat rw [vIf_ft] at hn
          try simp at hn
          try simp only [hn]
          go_wp2_with (fail)
          exact ⟨rfl, _, rfl, Below.refl _ _, by first | rfl | simp [vIf]⟩
        | false =>
          try rw [hq] at hn
          repeat rw [vIf_tt] at hn
          repeat rw [vIf_ff] at hn
          repeat rw [vIf_tf] at hn
          repeat rw [vIf_ft] at hn
          try simp at hn
          try simp only [hn]
          go_wp2_with (fail)
          exact ⟨rfl, _, rfl, Below.refl _ _, by first | rfl | simp [vIf]⟩
      · intro xs W hW hn
        simp [flowNeeds, Region.binds] at hn
        simp only [flowAct, List.zipWith_cons_cons, List.zipWith_nil_left]
        cases hq : H with
        | true =>
          try rw [hq] at hn
          repeat rw [vIf_tt] at hn
          repeat rw [vIf_ff] at hn
          repeat rw [vIf_tf] at hn
          repeat rw [vIf_ft] at hn
          try simp at hn
          try simp only [hn]
          go_wp2_with (fail)
          exact ⟨rfl, _, rfl, Below.refl _ _, by first | rfl | simp [vIf]⟩
        | false =>
          try rw [hq] at hn
          repeat rw [vIf_tt] at hn
          repeat rw [vIf_ff] at hn
          repeat rw [vIf_tf] at hn
          repeat rw [vIf_ft] at hn
          try simp at hn
          try simp only [hn]
          go_wp2_with (fail)
          exact ⟨rfl, _, rfl, Below.refl _ _, by first | rfl | simp [vIf]⟩
      · intro xs W hW hn
        simp [flowNeeds, Region.binds] at hn
        simp only [flowAct, List.zipWith_cons_cons, List.zipWith_nil_left]
        cases hq : H with
        | true =>
          try rw [hq] at hn
          repeat rw [vIf_tt] at hn
          repeat rw [vIf_ff] at hn
          repeat rw [vIf_tf] at hn
          repeat rw [vIf_ft] at hn
          try simp at hn
          simp only [hn]
          go_wp2_with (fail)
          exact ⟨rfl, _, rfl, Below.refl _ _, by rw [← HI9.out, hq]; first | rfl | simp⟩
        | false =>
          try rw [hq] at hn
          repeat rw [vIf_tt] at hn
          repeat rw [vIf_ff] at hn
          repeat rw [vIf_tf] at hn
          repeat rw [vIf_ft] at hn
          try simp at hn
          simp only [hn]
          go_wp2_with (fail)
          exact ⟨rfl, _, rfl, Below.refl _ _, by rw [← HI9.out, hq]; first | rfl | simp⟩
    · intro xs W hW hall
      simp only [flowAll, and_true, Nat.zero_add, Nat.reduceAdd] at hall
      obtain ⟨-, -, -, -, -, -, -, -, -, -, -, -, -, -, -, -, -, -, -, -, -, -, -, -, -, -, -, -, -, -, -, -, -, -, -, -, -, -, -, -, -, -, -, -, -, -, -, -, -, -, -, -, -, -, -, -, -, -, -, -, e60⟩ := hall
      simp only [flowAct, List.zipWith_cons_cons, List.zipWith_nil_left]
      simp only [e60]
      have HB3 := Lib.hid (HB2.out.trans (hW.mono HB2.out.size))
      have HR3 := Lib.hid (heap_below HR2.out hW)
      clear e60 hW HB2 HR2 HCW HSG HVG HZZ HA9 HBb9 HC9 HD9 HE9 HF9 HG9 HH9 HI9 hq1 hq2 hq3 hq4 hq6 hq9 hq10
      rename_i W3i
      obtain ⟨W3, hW3⟩ : ∃ X, W = X := ⟨_, rfl⟩
      rw [hW3] at HB3 HR3 ⊢
      clear hW3
      cases HD with
      | true =>
        have HRR := Lib.hid (H1a.out (by first | rfl | trivial))
        clear H1a H2a H3a
        go_wp2
        go_ret
        exact ⟨by rw [HRR.out]; rfl, HB3.out⟩
      | false =>
        have H2b := Lib.hid (H2a.out (by first | rfl | trivial))
        have H3b := Lib.hid (H3a.out (by first | rfl | trivial))
        clear H1a H2a H3a
        go_wp2
        go_loopw [6] (fun i wr => ∃ k : Nat, k ≤ m ∧ i = .int .i64 (k : Int) ∧ (∀ j, j < k → wAt n1 l j = true) ∧ Below w.heap.size w wr ∧ wr.heap[B]? = some (.cells #[.int .i64 site, .int .i64 seq, .int .i64 n, .int .i64 s, .int .i64 a, .int .i64 b, .slice x2 m cap2] 29 (0, 0))) (fun i _ => m - (intOf i).toNat)
        case atStart => exact ⟨0, by omega, rfl, fun j hj => by omega, HB3.out, HR3.out⟩
        case round =>
          clear HB3 HR3
          obtain ⟨k, hk, rfl, ha, hB, hr⟩ := hrel
          obtain ⟨c0, c1, c2, c3, c4, c5, c6⟩ := ch_cells hr
          have HA := Lib.hid ha
          have HBr := Lib.hid hB
          have HRr := Lib.hid hr
          clear ha hB hr
          by_cases hlt : k < m
          · have hki : (k : Int) < (m : Int) := by omega
            have hkc : (k : Int) < (cap2 : Int) := by omega
            obtain ⟨bk, off, rfl, hat⟩ := HL.out.place hlt
            have hxs := HXS.out _ (wr_mem (k := k) (by rw [hll]; exact hlt))
            have hwa : wAt n1 l k = (mayS n1 (l.getD k Wr.zero) && (decide (k = 0) || aheadS (l.getD (k - 1) Wr.zero) (l.getD k Wr.zero))) := rfl
            have HWA := Lib.hid hwa
            have HPL := Lib.hid (fun (j : Nat) (hj : j < m) => HL.out.place hj)
            obtain ⟨y, hy⟩ : ∃ y, l.getD k Wr.zero = y := ⟨_, rfl⟩
            rw [hy] at hat hxs HWA
            obtain ⟨kx, ix, gx, vx⟩ := y
            simp only at hat hxs
            have hwc := fun W => rwrite_c (w := W) (x := x) hle1 hmax1 kx ix gx vx hxs.1 hxs.2
            obtain ⟨q, hq⟩ : ∃ z, mayS n1 ⟨kx, ix, gx, vx⟩ = z := ⟨_, rfl⟩
            rw [hq] at HWA
            simp only [hq] at hwc
            have HWC := Lib.hid hwc
            have HPW := Lib.hid (fun W (h : Below wr.heap.size wr W) => hat W (HBr.out.trans (h.mono HBr.out.size)))
            have HCL := Lib.hid (fun W (h : Below wr.heap.size wr W) => ch_cells (heap_below HRr.out h))
            have HY := Lib.hid hy
            clear hat hxs hwa hwc hq hy
            go_upto_region 9 with (fail)
            clear c0 c1 c2 c3 c4 c5 c6
            cases q with
            | false =>
              have HRR := Lib.hid (H2b.out k hlt (by rw [HWA.out]; rfl))
              clear HWA
              refine wp_region_flow [none, none, none, none, none, none, none, none, none, none, none, none, none, none, none, none, none, none, none, none, none, none, none, none, none, none, none, none, none, none, none, none, none, none, none, none, none, none, none, none, none, none, none, none, none, none, none, none, none, none, none, none, none, none, none, none, none, none, none, none, none, none, none, none, none, none, none, none, none, none, none, none, none, none, none, none, none, none, none, none, some 0, some 1, some 2, some 3, some 4, some 5, some 6, some 7, some 8, some 9, some 10, some 11, some 12, some 13, some 14, some 15, some 16, some 17, some 18, some 19, some 20, some 21, some 22, some 23, some 24, some 25, some 26] (fun i => [u80, u81, u82, u83, u84, u85, u86, u87, u88, u89, u90, u91, u92, u93, u94, u95, u96, u97, u98, u99, u100, u101, u102, u103, u104, u105, u106].getD i undef) [(fun v _ => v = .slice x n1 cap), (fun v _ => v = .pointer (some ⟨B, 6, none⟩)), (fun v _ => v = .slice (some ⟨bk, off, none⟩) m cap2), (fun v _ => v = .int .i64 (k : Int)), (fun v _ => v = .pointer (some ⟨bk, off + k * 4, none⟩)), (fun v _ => v = .agg #[.string (text kx), .int .i64 ix, .bool gx, .string (text vx)]), (fun v _ => v = .bool false), (fun v _ => v = .bool true), (fun v _ => v = .bool true), (fun v _ => v = undef), (fun v _ => v = undef), (fun v _ => v = undef), (fun v _ => v = undef), (fun v _ => v = undef), (fun v _ => v = undef), (fun v _ => v = undef), (fun v _ => v = undef), (fun v _ => v = undef), (fun v _ => v = undef), (fun v _ => v = undef), (fun v _ => v = undef), (fun v _ => v = undef), (fun v _ => v = undef), (fun v _ => v = undef), (fun v _ => v = undef), (fun v _ => v = undef), (fun v _ => v = .bool true)] (by kernel_rfl) (by kernel_rfl) rfl rfl rfl ?_ ?_ ?_
              · intro g hg v X Y hX hY hv
                simp only [List.mem_cons, List.not_mem_nil, or_false] at hg
                rcases hg with rfl | rfl | rfl | rfl | rfl | rfl | rfl | rfl | rfl | rfl | rfl | rfl | rfl | rfl | rfl | rfl | rfl | rfl | rfl | rfl | rfl | rfl | rfl | rfl | rfl | rfl | rfl
                all_goals first
                  | exact hv
                  | exact hv.kept hY
              · simp only [flowOps, and_true]
                refine ⟨?_, ?_, ?_, ?_, ?_, ?_, ?_, ?_, ?_, ?_, ?_, ?_, ?_, ?_, ?_, ?_, ?_, ?_, ?_, ?_, ?_, ?_, ?_, ?_, ?_, ?_, ?_⟩
                · intro xs W hW hn
                  simp only [flowAct, List.zipWith_cons_cons, List.zipWith_nil_left]
                  go_wp2_with (fail)
                  exact ⟨rfl, _, rfl, Below.refl _ _, rfl⟩
                · intro xs W hW hn
                  simp only [flowAct, List.zipWith_cons_cons, List.zipWith_nil_left]
                  go_wp2_with (fail)
                  exact ⟨rfl, _, rfl, Below.refl _ _, rfl⟩
                · intro xs W hW hn
                  obtain ⟨c0, c1, c2, c3, c4, c5, c6⟩ := HCL.out W hW
                  simp [flowNeeds, Region.binds] at hn
                  simp only [flowAct, List.zipWith_cons_cons, List.zipWith_nil_left]
                  try simp only [hn]
                  go_wp2_with (fail)
                  exact ⟨rfl, _, rfl, Below.refl _ _, rfl⟩
                · intro xs W hW hn
                  simp only [flowAct, List.zipWith_cons_cons, List.zipWith_nil_left]
                  go_wp2_with (fail)
                  exact ⟨rfl, _, rfl, Below.refl _ _, rfl⟩
                · intro xs W hW hn
                  simp [flowNeeds, Region.binds] at hn
                  simp only [flowAct, List.zipWith_cons_cons, List.zipWith_nil_left]
                  try simp only [hn]
                  go_wp2_with (fail)
                  exact ⟨rfl, _, rfl, Below.refl _ _, rfl⟩
                · intro xs W hW hn
                  obtain ⟨p0, p1, p2, p3⟩ := HPW.out W hW
                  simp [flowNeeds, Region.binds] at hn
                  simp only [flowAct, List.zipWith_cons_cons, List.zipWith_nil_left]
                  try simp only [hn]
                  go_wp2_with (fail)
                  exact ⟨rfl, _, rfl, Below.refl _ _, rfl⟩
                · intro xs W hW hn
                  simp [flowNeeds, Region.binds] at hn
                  simp only [flowAct, List.zipWith_cons_cons, List.zipWith_nil_left]
                  simp only [hn]
                  go_wp2_with (go_at_call 39; (with_reducible refine (HWC.out _).mono ?_); rintro e9 w9 ⟨rfl, hb9⟩)
                  exact ⟨rfl, _, rfl, hb9, rfl⟩
                · intro xs W hW hn
                  simp [flowNeeds, Region.binds] at hn
                  simp only [flowAct, List.zipWith_cons_cons, List.zipWith_nil_left]
                  try simp only [hn]
                  go_wp2_with (fail)
                  exact ⟨rfl, _, rfl, Below.refl _ _, rfl⟩
                · intro xs W hW hn
                  simp [flowNeeds, Region.binds] at hn
                  simp only [flowAct, List.zipWith_cons_cons, List.zipWith_nil_left]
                  try simp only [hn]
                  go_wp2_with (fail)
                  exact ⟨rfl, _, rfl, Below.refl _ _, rfl⟩
                · intro xs W hW hn
                  simp [flowNeeds, Region.binds] at hn
                  simp only [flowAct, List.zipWith_cons_cons, List.zipWith_nil_left]
                  try simp only [hn]
                  go_wp2_with (fail)
                  exact ⟨rfl, _, rfl, Below.refl _ _, rfl⟩
                · intro xs W hW hn
                  simp [flowNeeds, Region.binds] at hn
                  simp only [flowAct, List.zipWith_cons_cons, List.zipWith_nil_left]
                  try simp only [hn]
                  go_wp2_with (fail)
                  exact ⟨rfl, _, rfl, Below.refl _ _, rfl⟩
                · intro xs W hW hn
                  simp [flowNeeds, Region.binds] at hn
                  simp only [flowAct, List.zipWith_cons_cons, List.zipWith_nil_left]
                  try simp only [hn]
                  go_wp2_with (fail)
                  exact ⟨rfl, _, rfl, Below.refl _ _, rfl⟩
                · intro xs W hW hn
                  simp [flowNeeds, Region.binds] at hn
                  simp only [flowAct, List.zipWith_cons_cons, List.zipWith_nil_left]
                  try simp only [hn]
                  go_wp2_with (fail)
                  exact ⟨rfl, _, rfl, Below.refl _ _, rfl⟩
                · intro xs W hW hn
                  simp [flowNeeds, Region.binds] at hn
                  simp only [flowAct, List.zipWith_cons_cons, List.zipWith_nil_left]
                  try simp only [hn]
                  go_wp2_with (fail)
                  exact ⟨rfl, _, rfl, Below.refl _ _, rfl⟩
                · intro xs W hW hn
                  simp [flowNeeds, Region.binds] at hn
                  simp only [flowAct, List.zipWith_cons_cons, List.zipWith_nil_left]
                  try simp only [hn]
                  go_wp2_with (fail)
                  exact ⟨rfl, _, rfl, Below.refl _ _, rfl⟩
                · intro xs W hW hn
                  simp [flowNeeds, Region.binds] at hn
                  simp only [flowAct, List.zipWith_cons_cons, List.zipWith_nil_left]
                  try simp only [hn]
                  go_wp2_with (fail)
                  exact ⟨rfl, _, rfl, Below.refl _ _, rfl⟩
                · intro xs W hW hn
                  simp [flowNeeds, Region.binds] at hn
                  simp only [flowAct, List.zipWith_cons_cons, List.zipWith_nil_left]
                  try simp only [hn]
                  go_wp2_with (fail)
                  exact ⟨rfl, _, rfl, Below.refl _ _, rfl⟩
                · intro xs W hW hn
                  simp [flowNeeds, Region.binds] at hn
                  simp only [flowAct, List.zipWith_cons_cons, List.zipWith_nil_left]
                  try simp only [hn]
                  go_wp2_with (fail)
                  exact ⟨rfl, _, rfl, Below.refl _ _, rfl⟩
                · intro xs W hW hn
                  simp [flowNeeds, Region.binds] at hn
                  simp only [flowAct, List.zipWith_cons_cons, List.zipWith_nil_left]
                  try simp only [hn]
                  go_wp2_with (fail)
                  exact ⟨rfl, _, rfl, Below.refl _ _, rfl⟩
                · intro xs W hW hn
                  simp [flowNeeds, Region.binds] at hn
                  simp only [flowAct, List.zipWith_cons_cons, List.zipWith_nil_left]
                  try simp only [hn]
                  go_wp2_with (fail)
                  exact ⟨rfl, _, rfl, Below.refl _ _, rfl⟩
                · intro xs W hW hn
                  simp [flowNeeds, Region.binds] at hn
                  simp only [flowAct, List.zipWith_cons_cons, List.zipWith_nil_left]
                  try simp only [hn]
                  go_wp2_with (fail)
                  exact ⟨rfl, _, rfl, Below.refl _ _, rfl⟩
                · intro xs W hW hn
                  simp [flowNeeds, Region.binds] at hn
                  simp only [flowAct, List.zipWith_cons_cons, List.zipWith_nil_left]
                  try simp only [hn]
                  go_wp2_with (fail)
                  exact ⟨rfl, _, rfl, Below.refl _ _, rfl⟩
                · intro xs W hW hn
                  simp [flowNeeds, Region.binds] at hn
                  simp only [flowAct, List.zipWith_cons_cons, List.zipWith_nil_left]
                  try simp only [hn]
                  go_wp2_with (fail)
                  exact ⟨rfl, _, rfl, Below.refl _ _, rfl⟩
                · intro xs W hW hn
                  simp [flowNeeds, Region.binds] at hn
                  simp only [flowAct, List.zipWith_cons_cons, List.zipWith_nil_left]
                  try simp only [hn]
                  go_wp2_with (fail)
                  exact ⟨rfl, _, rfl, Below.refl _ _, rfl⟩
                · intro xs W hW hn
                  simp [flowNeeds, Region.binds] at hn
                  simp only [flowAct, List.zipWith_cons_cons, List.zipWith_nil_left]
                  try simp only [hn]
                  go_wp2_with (fail)
                  exact ⟨rfl, _, rfl, Below.refl _ _, rfl⟩
                · intro xs W hW hn
                  simp [flowNeeds, Region.binds] at hn
                  simp only [flowAct, List.zipWith_cons_cons, List.zipWith_nil_left]
                  try simp only [hn]
                  go_wp2_with (fail)
                  exact ⟨rfl, _, rfl, Below.refl _ _, rfl⟩
                · intro xs W hW hn
                  simp [flowNeeds, Region.binds] at hn
                  simp only [flowAct, List.zipWith_cons_cons, List.zipWith_nil_left]
                  try simp only [hn]
                  go_wp2_with (fail)
                  exact ⟨rfl, _, rfl, Below.refl _ _, rfl⟩
              · intro xs W hW hall
                simp only [flowAll, and_true, Nat.zero_add, Nat.reduceAdd] at hall
                obtain ⟨-, -, -, -, -, -, -, -, -, -, -, -, -, -, -, -, -, -, -, -, -, -, -, -, -, -, e26⟩ := hall
                simp only [flowAct, List.zipWith_cons_cons, List.zipWith_nil_left]
                simp only [e26]
                go_wp2
                go_ret
                exact ⟨by rw [HRR.out]; rfl, HBr.out.trans (hW.mono HBr.out.size)⟩
            | true =>
              by_cases hk0 : k = 0
              · subst hk0
                have HAN := Lib.hid (show ∀ j, j < 0 + 1 → wAt n1 l j = true from fun j hj => by
                  obtain rfl : j = 0 := by omega
                  rw [HWA.out]; rfl)
                have hpz := HPW.out
                simp only [Nat.zero_mul, Nat.add_zero] at hpz
                have HPZ := Lib.hid hpz
                clear HWA hpz HPW
                refine wp_region_flow [none, none, none, none, none, none, none, none, none, none, none, none, none, none, none, none, none, none, none, none, none, none, none, none, none, none, none, none, none, none, none, none, none, none, none, none, none, none, none, none, none, none, none, none, none, none, none, none, none, none, none, none, none, none, none, none, none, none, none, none, none, none, none, none, none, none, none, none, none, none, none, none, none, none, none, none, none, none, none, none, some 0, some 1, some 2, some 3, some 4, some 5, some 6, some 7, some 8, some 9, some 10, some 11, some 12, some 13, some 14, some 15, some 16, some 17, some 18, some 19, some 20, some 21, some 22, some 23, some 24, some 25, some 26] (fun i => [u80, u81, u82, u83, u84, u85, u86, u87, u88, u89, u90, u91, u92, u93, u94, u95, u96, u97, u98, u99, u100, u101, u102, u103, u104, u105, u106].getD i undef) [(fun v _ => v = .slice x n1 cap), (fun v _ => v = .pointer (some ⟨B, 6, none⟩)), (fun v _ => v = .slice (some ⟨bk, off, none⟩) m cap2), (fun v _ => v = .int .i64 0), (fun v _ => v = .pointer (some ⟨bk, off, none⟩)), (fun v _ => v = .agg #[.string (text kx), .int .i64 ix, .bool gx, .string (text vx)]), (fun v _ => v = .bool true), (fun v _ => v = .bool false), (fun v _ => v = .bool false), (fun v _ => v = .int .i64 0), (fun v _ => v = .bool false), (fun v _ => v = .bool false), (fun v _ => v = undef), (fun v _ => v = undef), (fun v _ => v = undef), (fun v _ => v = undef), (fun v _ => v = undef), (fun v _ => v = undef), (fun v _ => v = undef), (fun v _ => v = undef), (fun v _ => v = undef), (fun v _ => v = undef), (fun v _ => v = undef), (fun v _ => v = undef), (fun v _ => v = undef), (fun v _ => v = .bool false), (fun v _ => v = .bool false)] (by kernel_rfl) (by kernel_rfl) rfl rfl rfl ?_ ?_ ?_
                · intro g hg v X Y hX hY hv
                  simp only [List.mem_cons, List.not_mem_nil, or_false] at hg
                  rcases hg with rfl | rfl | rfl | rfl | rfl | rfl | rfl | rfl | rfl | rfl | rfl | rfl | rfl | rfl | rfl | rfl | rfl | rfl | rfl | rfl | rfl | rfl | rfl | rfl | rfl | rfl | rfl
                  all_goals first
                    | exact hv
                    | exact hv.kept hY
                · simp only [flowOps, and_true]
                  refine ⟨?_, ?_, ?_, ?_, ?_, ?_, ?_, ?_, ?_, ?_, ?_, ?_, ?_, ?_, ?_, ?_, ?_, ?_, ?_, ?_, ?_, ?_, ?_, ?_, ?_, ?_, ?_⟩
                  · intro xs W hW hn
                    simp only [flowAct, List.zipWith_cons_cons, List.zipWith_nil_left]
                    go_wp2_with (fail)
                    exact ⟨rfl, _, rfl, Below.refl _ _, rfl⟩
                  · intro xs W hW hn
                    simp only [flowAct, List.zipWith_cons_cons, List.zipWith_nil_left]
                    go_wp2_with (fail)
                    exact ⟨rfl, _, rfl, Below.refl _ _, rfl⟩
                  · intro xs W hW hn
                    obtain ⟨c0, c1, c2, c3, c4, c5, c6⟩ := HCL.out W hW
                    simp [flowNeeds, Region.binds] at hn
                    simp only [flowAct, List.zipWith_cons_cons, List.zipWith_nil_left]
                    try simp only [hn]
                    go_wp2_with (fail)
                    exact ⟨rfl, _, rfl, Below.refl _ _, rfl⟩
                  · intro xs W hW hn
                    simp only [flowAct, List.zipWith_cons_cons, List.zipWith_nil_left]
                    go_wp2_with (fail)
                    exact ⟨rfl, _, rfl, Below.refl _ _, rfl⟩
                  · intro xs W hW hn
                    simp [flowNeeds, Region.binds] at hn
                    simp only [flowAct, List.zipWith_cons_cons, List.zipWith_nil_left]
                    try simp only [hn]
                    go_wp2_with (fail)
                    exact ⟨rfl, _, rfl, Below.refl _ _, rfl⟩
                  · intro xs W hW hn
                    obtain ⟨p0, p1, p2, p3⟩ := HPZ.out W hW
                    simp [flowNeeds, Region.binds] at hn
                    simp only [flowAct, List.zipWith_cons_cons, List.zipWith_nil_left]
                    try simp only [hn]
                    go_wp2_with (fail)
                    exact ⟨rfl, _, rfl, Below.refl _ _, rfl⟩
                  · intro xs W hW hn
                    simp [flowNeeds, Region.binds] at hn
                    simp only [flowAct, List.zipWith_cons_cons, List.zipWith_nil_left]
                    simp only [hn]
                    go_wp2_with (go_at_call 39; (with_reducible refine (HWC.out _).mono ?_); rintro e9 w9 ⟨rfl, hb9⟩)
                    exact ⟨rfl, _, rfl, hb9, rfl⟩
                  · intro xs W hW hn
                    simp [flowNeeds, Region.binds] at hn
                    simp only [flowAct, List.zipWith_cons_cons, List.zipWith_nil_left]
                    try simp only [hn]
                    go_wp2_with (fail)
                    exact ⟨rfl, _, rfl, Below.refl _ _, rfl⟩
                  · intro xs W hW hn
                    simp [flowNeeds, Region.binds] at hn
                    simp only [flowAct, List.zipWith_cons_cons, List.zipWith_nil_left]
                    try simp only [hn]
                    go_wp2_with (fail)
                    exact ⟨rfl, _, rfl, Below.refl _ _, rfl⟩
                  · intro xs W hW hn
                    simp [flowNeeds, Region.binds] at hn
                    simp only [flowAct, List.zipWith_cons_cons, List.zipWith_nil_left]
                    try simp only [hn]
                    go_wp2_with (fail)
                    exact ⟨rfl, _, rfl, Below.refl _ _, rfl⟩
                  · intro xs W hW hn
                    simp [flowNeeds, Region.binds] at hn
                    simp only [flowAct, List.zipWith_cons_cons, List.zipWith_nil_left]
                    try simp only [hn]
                    go_wp2_with (fail)
                    exact ⟨rfl, _, rfl, Below.refl _ _, rfl⟩
                  · intro xs W hW hn
                    simp [flowNeeds, Region.binds] at hn
                    simp only [flowAct, List.zipWith_cons_cons, List.zipWith_nil_left]
                    try simp only [hn]
                    go_wp2_with (fail)
                    exact ⟨rfl, _, rfl, Below.refl _ _, rfl⟩
                  · intro xs W hW hn
                    simp [flowNeeds, Region.binds] at hn
                    simp only [flowAct, List.zipWith_cons_cons, List.zipWith_nil_left]
                    try simp only [hn]
                    go_wp2_with (fail)
                    exact ⟨rfl, _, rfl, Below.refl _ _, rfl⟩
                  · intro xs W hW hn
                    simp [flowNeeds, Region.binds] at hn
                    simp only [flowAct, List.zipWith_cons_cons, List.zipWith_nil_left]
                    try simp only [hn]
                    go_wp2_with (fail)
                    exact ⟨rfl, _, rfl, Below.refl _ _, rfl⟩
                  · intro xs W hW hn
                    simp [flowNeeds, Region.binds] at hn
                    simp only [flowAct, List.zipWith_cons_cons, List.zipWith_nil_left]
                    try simp only [hn]
                    go_wp2_with (fail)
                    exact ⟨rfl, _, rfl, Below.refl _ _, rfl⟩
                  · intro xs W hW hn
                    simp [flowNeeds, Region.binds] at hn
                    simp only [flowAct, List.zipWith_cons_cons, List.zipWith_nil_left]
                    try simp only [hn]
                    go_wp2_with (fail)
                    exact ⟨rfl, _, rfl, Below.refl _ _, rfl⟩
                  · intro xs W hW hn
                    simp [flowNeeds, Region.binds] at hn
                    simp only [flowAct, List.zipWith_cons_cons, List.zipWith_nil_left]
                    try simp only [hn]
                    go_wp2_with (fail)
                    exact ⟨rfl, _, rfl, Below.refl _ _, rfl⟩
                  · intro xs W hW hn
                    simp [flowNeeds, Region.binds] at hn
                    simp only [flowAct, List.zipWith_cons_cons, List.zipWith_nil_left]
                    try simp only [hn]
                    go_wp2_with (fail)
                    exact ⟨rfl, _, rfl, Below.refl _ _, rfl⟩
                  · intro xs W hW hn
                    simp [flowNeeds, Region.binds] at hn
                    simp only [flowAct, List.zipWith_cons_cons, List.zipWith_nil_left]
                    try simp only [hn]
                    go_wp2_with (fail)
                    exact ⟨rfl, _, rfl, Below.refl _ _, rfl⟩
                  · intro xs W hW hn
                    simp [flowNeeds, Region.binds] at hn
                    simp only [flowAct, List.zipWith_cons_cons, List.zipWith_nil_left]
                    try simp only [hn]
                    go_wp2_with (fail)
                    exact ⟨rfl, _, rfl, Below.refl _ _, rfl⟩
                  · intro xs W hW hn
                    simp [flowNeeds, Region.binds] at hn
                    simp only [flowAct, List.zipWith_cons_cons, List.zipWith_nil_left]
                    try simp only [hn]
                    go_wp2_with (fail)
                    exact ⟨rfl, _, rfl, Below.refl _ _, rfl⟩
                  · intro xs W hW hn
                    simp [flowNeeds, Region.binds] at hn
                    simp only [flowAct, List.zipWith_cons_cons, List.zipWith_nil_left]
                    try simp only [hn]
                    go_wp2_with (fail)
                    exact ⟨rfl, _, rfl, Below.refl _ _, rfl⟩
                  · intro xs W hW hn
                    simp [flowNeeds, Region.binds] at hn
                    simp only [flowAct, List.zipWith_cons_cons, List.zipWith_nil_left]
                    try simp only [hn]
                    go_wp2_with (fail)
                    exact ⟨rfl, _, rfl, Below.refl _ _, rfl⟩
                  · intro xs W hW hn
                    simp [flowNeeds, Region.binds] at hn
                    simp only [flowAct, List.zipWith_cons_cons, List.zipWith_nil_left]
                    try simp only [hn]
                    go_wp2_with (fail)
                    exact ⟨rfl, _, rfl, Below.refl _ _, rfl⟩
                  · intro xs W hW hn
                    simp [flowNeeds, Region.binds] at hn
                    simp only [flowAct, List.zipWith_cons_cons, List.zipWith_nil_left]
                    try simp only [hn]
                    go_wp2_with (fail)
                    exact ⟨rfl, _, rfl, Below.refl _ _, rfl⟩
                  · intro xs W hW hn
                    simp [flowNeeds, Region.binds] at hn
                    simp only [flowAct, List.zipWith_cons_cons, List.zipWith_nil_left]
                    try simp only [hn]
                    go_wp2_with (fail)
                    exact ⟨rfl, _, rfl, Below.refl _ _, rfl⟩
                  · intro xs W hW hn
                    simp [flowNeeds, Region.binds] at hn
                    simp only [flowAct, List.zipWith_cons_cons, List.zipWith_nil_left]
                    try simp only [hn]
                    go_wp2_with (fail)
                    exact ⟨rfl, _, rfl, Below.refl _ _, rfl⟩
                · intro xs W hW hall
                  simp only [flowAll, and_true, Nat.zero_add, Nat.reduceAdd] at hall
                  obtain ⟨-, -, -, -, -, -, -, -, -, -, -, -, -, -, -, -, -, -, -, -, -, -, -, -, -, -, e26⟩ := hall
                  simp only [flowAct, List.zipWith_cons_cons, List.zipWith_nil_left]
                  simp only [e26]
                  go_wp2
                  go_roundw
                  case rel => exact ⟨0 + 1, by omega, by go_num, HAN.out, HBr.out.trans (hW.mono HBr.out.size), heap_below HRr.out hW⟩
                  case measure => simp [intOf]; omega
              · obtain ⟨j, rfl⟩ : ∃ j, k = j + 1 := ⟨k - 1, by omega⟩
                have hjm : j < m := by omega
                have hj0 : (0 : Int) < ((j + 1 : Nat) : Int) := by omega
                have hjc : (j : Int) < (m : Int) := by omega
                have hjc2 : (j : Int) < (cap2 : Int) := by omega
                obtain ⟨bk2, off2, e2, hat2⟩ := HPL.out j hjm
                injection e2 with e2
                injection e2 with e3 e4
                subst e3 e4
                obtain ⟨y, hy2⟩ : ∃ y, l.getD j Wr.zero = y := ⟨_, rfl⟩
                rw [show j + 1 - 1 = j from rfl, hy2] at HWA
                rw [hy2] at hat2
                obtain ⟨ky, iy, gy, vy⟩ := y
                simp only at hat2
                have hah := fun W => rahead_c ky iy gy vy kx ix gx vx W
                obtain ⟨AH, hAH⟩ : ∃ z, aheadS ⟨ky, iy, gy, vy⟩ ⟨kx, ix, gx, vx⟩ = z := ⟨_, rfl⟩
                rw [hAH] at HWA
                simp only [hAH] at hah
                have HAH := Lib.hid hah
                have HQW := Lib.hid (fun W (h : Below wr.heap.size wr W) => hat2 W (HBr.out.trans (h.mono HBr.out.size)))
                clear hat2 hah hAH hy2 hk0
                refine wp_region_flow [none, none, none, none, none, none, none, none, none, none, none, none, none, none, none, none, none, none, none, none, none, none, none, none, none, none, none, none, none, none, none, none, none, none, none, none, none, none, none, none, none, none, none, none, none, none, none, none, none, none, none, none, none, none, none, none, none, none, none, none, none, none, none, none, none, none, none, none, none, none, none, none, none, none, none, none, none, none, none, none, some 0, some 1, some 2, some 3, some 4, some 5, some 6, some 7, some 8, some 9, some 10, some 11, some 12, some 13, some 14, some 15, some 16, some 17, some 18, some 19, some 20, some 21, some 22, some 23, some 24, some 25, some 26] (fun i => [u80, u81, u82, u83, u84, u85, u86, u87, u88, u89, u90, u91, u92, u93, u94, u95, u96, u97, u98, u99, u100, u101, u102, u103, u104, u105, u106].getD i undef) [(fun v _ => v = .slice x n1 cap), (fun v _ => v = .pointer (some ⟨B, 6, none⟩)), (fun v _ => v = .slice (some ⟨bk, off, none⟩) m cap2), (fun v _ => v = .int .i64 ((j + 1 : Nat) : Int)), (fun v _ => v = .pointer (some ⟨bk, off + (j + 1) * 4, none⟩)), (fun v _ => v = .agg #[.string (text kx), .int .i64 ix, .bool gx, .string (text vx)]), (fun v _ => v = .bool true), (fun v _ => v = .bool false), (fun v _ => v = .bool false), (fun v _ => v = .int .i64 ((j + 1 : Nat) : Int)), (fun v _ => v = .bool true), (fun v _ => v = .bool true), (fun v _ => v = .pointer (some ⟨B, 6, none⟩)), (fun v _ => v = .slice (some ⟨bk, off, none⟩) m cap2), (fun v _ => v = .int .i64 ((j + 1 : Nat) : Int)), (fun v _ => v = .int .i64 (j : Int)), (fun v _ => v = .pointer (some ⟨bk, off + j * 4, none⟩)), (fun v _ => v = .agg #[.string (text ky), .int .i64 iy, .bool gy, .string (text vy)]), (fun v _ => v = .pointer (some ⟨B, 6, none⟩)), (fun v _ => v = .slice (some ⟨bk, off, none⟩) m cap2), (fun v _ => v = .int .i64 ((j + 1 : Nat) : Int)), (fun v _ => v = .pointer (some ⟨bk, off + (j + 1) * 4, none⟩)), (fun v _ => v = .agg #[.string (text kx), .int .i64 ix, .bool gx, .string (text vx)]), (fun v _ => v = .bool AH), (fun v _ => v = .bool (!AH)), (fun v _ => v = .bool (!AH)), (fun v _ => v = .bool (!AH))] (by kernel_rfl) (by kernel_rfl) rfl rfl rfl ?_ ?_ ?_
                · intro g hg v X Y hX hY hv
                  simp only [List.mem_cons, List.not_mem_nil, or_false] at hg
                  rcases hg with rfl | rfl | rfl | rfl | rfl | rfl | rfl | rfl | rfl | rfl | rfl | rfl | rfl | rfl | rfl | rfl | rfl | rfl | rfl | rfl | rfl | rfl | rfl | rfl | rfl | rfl | rfl
                  all_goals first
                    | exact hv
                    | exact hv.kept hY
                · simp only [flowOps, and_true]
                  refine ⟨?_, ?_, ?_, ?_, ?_, ?_, ?_, ?_, ?_, ?_, ?_, ?_, ?_, ?_, ?_, ?_, ?_, ?_, ?_, ?_, ?_, ?_, ?_, ?_, ?_, ?_, ?_⟩
                  · intro xs W hW hn
                    simp only [flowAct, List.zipWith_cons_cons, List.zipWith_nil_left]
                    go_wp2_with (fail)
                    exact ⟨rfl, _, rfl, Below.refl _ _, rfl⟩
                  · intro xs W hW hn
                    simp only [flowAct, List.zipWith_cons_cons, List.zipWith_nil_left]
                    go_wp2_with (fail)
                    exact ⟨rfl, _, rfl, Below.refl _ _, rfl⟩
                  · intro xs W hW hn
                    obtain ⟨c0, c1, c2, c3, c4, c5, c6⟩ := HCL.out W hW
                    simp [flowNeeds, Region.binds] at hn
                    simp only [flowAct, List.zipWith_cons_cons, List.zipWith_nil_left]
                    try simp only [hn]
                    go_wp2_with (fail)
                    exact ⟨rfl, _, rfl, Below.refl _ _, rfl⟩
                  · intro xs W hW hn
                    simp only [flowAct, List.zipWith_cons_cons, List.zipWith_nil_left]
                    go_wp2_with (fail)
                    exact ⟨rfl, _, rfl, Below.refl _ _, rfl⟩
                  · intro xs W hW hn
                    simp [flowNeeds, Region.binds] at hn
                    simp only [flowAct, List.zipWith_cons_cons, List.zipWith_nil_left]
                    try simp only [hn]
                    go_wp2_with (fail)
                    exact ⟨rfl, _, rfl, Below.refl _ _, rfl⟩
                  · intro xs W hW hn
                    obtain ⟨p0, p1, p2, p3⟩ := HPW.out W hW
                    simp [flowNeeds, Region.binds] at hn
                    simp only [flowAct, List.zipWith_cons_cons, List.zipWith_nil_left]
                    try simp only [hn]
                    go_wp2_with (fail)
                    exact ⟨rfl, _, rfl, Below.refl _ _, rfl⟩
                  · intro xs W hW hn
                    simp [flowNeeds, Region.binds] at hn
                    simp only [flowAct, List.zipWith_cons_cons, List.zipWith_nil_left]
                    simp only [hn]
                    go_wp2_with (go_at_call 39; (with_reducible refine (HWC.out _).mono ?_); rintro e9 w9 ⟨rfl, hb9⟩)
                    exact ⟨rfl, _, rfl, hb9, rfl⟩
                  · intro xs W hW hn
                    simp [flowNeeds, Region.binds] at hn
                    simp only [flowAct, List.zipWith_cons_cons, List.zipWith_nil_left]
                    try simp only [hn]
                    go_wp2_with (fail)
                    exact ⟨rfl, _, rfl, Below.refl _ _, rfl⟩
                  · intro xs W hW hn
                    simp [flowNeeds, Region.binds] at hn
                    simp only [flowAct, List.zipWith_cons_cons, List.zipWith_nil_left]
                    try simp only [hn]
                    go_wp2_with (fail)
                    exact ⟨rfl, _, rfl, Below.refl _ _, rfl⟩
                  · intro xs W hW hn
                    simp [flowNeeds, Region.binds] at hn
                    simp only [flowAct, List.zipWith_cons_cons, List.zipWith_nil_left]
                    try simp only [hn]
                    go_wp2_with (fail)
                    exact ⟨rfl, _, rfl, Below.refl _ _, rfl⟩
                  · intro xs W hW hn
                    simp [flowNeeds, Region.binds] at hn
                    simp only [flowAct, List.zipWith_cons_cons, List.zipWith_nil_left]
                    simp only [hn]
                    go_wp2_with (fail)
                    exact ⟨rfl, _, rfl, Below.refl _ _, by go_num⟩
                  · intro xs W hW hn
                    simp [flowNeeds, Region.binds] at hn
                    simp only [flowAct, List.zipWith_cons_cons, List.zipWith_nil_left]
                    try simp only [hn]
                    go_wp2_with (fail)
                    exact ⟨rfl, _, rfl, Below.refl _ _, rfl⟩
                  · intro xs W hW hn
                    simp [flowNeeds, Region.binds] at hn
                    simp only [flowAct, List.zipWith_cons_cons, List.zipWith_nil_left]
                    try simp only [hn]
                    go_wp2_with (fail)
                    exact ⟨rfl, _, rfl, Below.refl _ _, rfl⟩
                  · intro xs W hW hn
                    obtain ⟨c0, c1, c2, c3, c4, c5, c6⟩ := HCL.out W hW
                    simp [flowNeeds, Region.binds] at hn
                    simp only [flowAct, List.zipWith_cons_cons, List.zipWith_nil_left]
                    try simp only [hn]
                    go_wp2_with (fail)
                    exact ⟨rfl, _, rfl, Below.refl _ _, rfl⟩
                  · intro xs W hW hn
                    simp [flowNeeds, Region.binds] at hn
                    simp only [flowAct, List.zipWith_cons_cons, List.zipWith_nil_left]
                    try simp only [hn]
                    go_wp2_with (fail)
                    exact ⟨rfl, _, rfl, Below.refl _ _, rfl⟩
                  · intro xs W hW hn
                    simp [flowNeeds, Region.binds] at hn
                    simp only [flowAct, List.zipWith_cons_cons, List.zipWith_nil_left]
                    simp only [hn]
                    go_wp2_with (fail)
                    exact ⟨rfl, _, rfl, Below.refl _ _, by go_num⟩
                  · intro xs W hW hn
                    simp [flowNeeds, Region.binds] at hn
                    simp only [flowAct, List.zipWith_cons_cons, List.zipWith_nil_left]
                    try simp only [hn]
                    go_wp2_with (fail)
                    exact ⟨rfl, _, rfl, Below.refl _ _, rfl⟩
                  · intro xs W hW hn
                    obtain ⟨p0, p1, p2, p3⟩ := HQW.out W hW
                    simp [flowNeeds, Region.binds] at hn
                    simp only [flowAct, List.zipWith_cons_cons, List.zipWith_nil_left]
                    try simp only [hn]
                    go_wp2_with (fail)
                    exact ⟨rfl, _, rfl, Below.refl _ _, rfl⟩
                  · intro xs W hW hn
                    simp [flowNeeds, Region.binds] at hn
                    simp only [flowAct, List.zipWith_cons_cons, List.zipWith_nil_left]
                    try simp only [hn]
                    go_wp2_with (fail)
                    exact ⟨rfl, _, rfl, Below.refl _ _, rfl⟩
                  · intro xs W hW hn
                    obtain ⟨c0, c1, c2, c3, c4, c5, c6⟩ := HCL.out W hW
                    simp [flowNeeds, Region.binds] at hn
                    simp only [flowAct, List.zipWith_cons_cons, List.zipWith_nil_left]
                    try simp only [hn]
                    go_wp2_with (fail)
                    exact ⟨rfl, _, rfl, Below.refl _ _, rfl⟩
                  · intro xs W hW hn
                    simp [flowNeeds, Region.binds] at hn
                    simp only [flowAct, List.zipWith_cons_cons, List.zipWith_nil_left]
                    try simp only [hn]
                    go_wp2_with (fail)
                    exact ⟨rfl, _, rfl, Below.refl _ _, rfl⟩
                  · intro xs W hW hn
                    simp [flowNeeds, Region.binds] at hn
                    simp only [flowAct, List.zipWith_cons_cons, List.zipWith_nil_left]
                    try simp only [hn]
                    go_wp2_with (fail)
                    exact ⟨rfl, _, rfl, Below.refl _ _, rfl⟩
                  · intro xs W hW hn
                    obtain ⟨p0, p1, p2, p3⟩ := HPW.out W hW
                    simp [flowNeeds, Region.binds] at hn
                    simp only [flowAct, List.zipWith_cons_cons, List.zipWith_nil_left]
                    try simp only [hn]
                    go_wp2_with (fail)
                    exact ⟨rfl, _, rfl, Below.refl _ _, rfl⟩
                  · intro xs W hW hn
                    simp [flowNeeds, Region.binds] at hn
                    simp only [flowAct, List.zipWith_cons_cons, List.zipWith_nil_left]
                    simp only [hn]
                    go_wp2_with (go_at_call 40; (with_reducible refine (HAH.out _).mono ?_); rintro e9 w9 ⟨rfl, hb9⟩)
                    exact ⟨rfl, _, rfl, hb9, rfl⟩
                  · intro xs W hW hn
                    simp [flowNeeds, Region.binds] at hn
                    simp only [flowAct, List.zipWith_cons_cons, List.zipWith_nil_left]
                    try simp only [hn]
                    go_wp2_with (fail)
                    exact ⟨rfl, _, rfl, Below.refl _ _, rfl⟩
                  · intro xs W hW hn
                    simp [flowNeeds, Region.binds] at hn
                    simp only [flowAct, List.zipWith_cons_cons, List.zipWith_nil_left]
                    try simp only [hn]
                    go_wp2_with (fail)
                    exact ⟨rfl, _, rfl, Below.refl _ _, rfl⟩
                  · intro xs W hW hn
                    simp [flowNeeds, Region.binds] at hn
                    simp only [flowAct, List.zipWith_cons_cons, List.zipWith_nil_left]
                    try simp only [hn]
                    go_wp2_with (fail)
                    exact ⟨rfl, _, rfl, Below.refl _ _, rfl⟩
                · intro xs W hW hall
                  simp only [flowAll, and_true, Nat.zero_add, Nat.reduceAdd] at hall
                  obtain ⟨-, -, -, -, -, -, -, -, -, -, -, -, -, -, -, -, -, -, -, -, -, -, -, -, -, -, e26⟩ := hall
                  simp only [flowAct, List.zipWith_cons_cons, List.zipWith_nil_left]
                  simp only [e26]
                  cases AH with
                  | true =>
                    have HAN := Lib.hid (show ∀ i, i < j + 1 + 1 → wAt n1 l i = true from fun i hi => by
                      by_cases hij : i < j + 1
                      · exact HA.out i hij
                      · obtain rfl : i = j + 1 := by omega
                        rw [HWA.out]; simp)
                    go_wp2
                    go_roundw
                    case rel => exact ⟨j + 1 + 1, by omega, by go_num, HAN.out, HBr.out.trans (hW.mono HBr.out.size), heap_below HRr.out hW⟩
                    case measure => simp [intOf]; omega
                  | false =>
                    have HRR := Lib.hid (H2b.out (j + 1) hlt (by rw [HWA.out]; simp))
                    go_wp2
                    go_ret
                    exact ⟨by rw [HRR.out]; rfl, HBr.out.trans (hW.mono HBr.out.size)⟩
          · obtain rfl : m = k := by omega
            have HRR := Lib.hid (H3b.out HA.out)
            go_wp2
            go_ret
            exact ⟨by rw [HRR.out]; rfl, HBr.out⟩

  · have h0n : (P0 != 0) = true := by simpa using h0
    have HRR := Lib.hid (H0.out h0)
    clear h0 H0 H1 H2 H3
    go_wp2
    go_ret
    exact ⟨by rw [HRR.out]; rfl, HB2.out⟩
end Go.Proofs.YtfkmfccdhmnllaaDoor
end

section
namespace Go.Proofs.YtfkmfccdhmnllaaDoor
open Go.RowKit Go Go.Sort
set_option linter.unusedVariables false
set_option maxRecDepth 20000

theorem own_bys {W : World} {B : Nat} {a : Option Addr} {m c : Nat} {l : List UInt8} (h : OwnB W B 5 (.slice a m c) l) : Bys W a m c l := by
  obtain ⟨a', c', ev, hc⟩ := h.bys
  injection ev with e1 e2 e3
  subst e1 e2 e3
  exact hc
/-- A change's bytes behind others: its head, and its writes one behind the other. -/
def cheadB (l : List UInt8) (site seq n s a b : Int) (m : Nat) : List UInt8 := vputS (sputS (l ++ numB site ++ numB seq) n s) a b ++ numB (m : Int)
def wputS (l : List UInt8) (c : Wr) : List UInt8 := if c.g = true then putTextS l c.k ++ numB c.i ++ numB 1 else putTextS (putTextS l c.k ++ numB c.i ++ numB 0) c.v
def wputN (l : List UInt8) (ws : List Wr) : Nat → List UInt8
  | 0 => l
  | k + 1 => wputS (wputN l ws k) (ws.getD k Wr.zero)
def chputS (l : List UInt8) (gs : List Grp) (site seq n s a b : Int) (ws : List Wr) : List UInt8 := if chgoodS gs site seq n s a b ws = 0 then wputN (cheadB l site seq n s a b ws.length) ws ws.length else l
theorem head_ok {site seq n s a b : Int} {m : Nat} (h : headBad site seq n s a b m = false) : (site = 1 ∨ site = 2) ∧ 1 ≤ seq ∧ seq ≤ 1099511627776 ∧ sgood n s = true ∧ s = site ∧ vgood a b = true ∧ (if site = 1 then a else b) = seq ∧ 1 ≤ m ∧ m ≤ 8 := by
  unfold headBad at h
  simp only [Bool.or_eq_false_iff, Bool.and_eq_false_iff, Bool.not_eq_false', bne_eq_false_iff_eq, decide_eq_false_iff_not] at h
  obtain ⟨⟨⟨⟨⟨⟨⟨⟨h1, h2⟩, h3⟩, h4⟩, h5⟩, h6⟩, h7⟩, h8⟩, h9⟩ := h
  exact ⟨h1, by omega, by omega, h4, h5, h6, h7, by omega, by omega⟩
theorem may_few {n : Nat} {c : Wr} (h : mayS n c = true) : c.k.length ≤ 32 ∧ 1 ≤ c.k.length ∧ 0 ≤ c.i ∧ c.i < (n : Int) ∧ c.v.length ≤ 64 ∧ (c.g = true → c.v = []) := by
  unfold mayS at h
  simp only [Bool.and_eq_true, decide_eq_true_eq] at h
  obtain ⟨h1, h2, h3, h4, h5⟩ := h
  have hk : ¬ c.k = [] ∧ c.k.length ≤ 32 := by
    unfold keyS at h1
    split at h1
    · cases h1
    · split at h1
      · cases h1
      · rename_i h6 h7; exact ⟨h6, by omega⟩
  refine ⟨hk.2, ?_, h2, h3, h4, fun hg => ?_⟩
  · rcases Nat.eq_zero_or_pos c.k.length with h | h
    · exact absurd (List.eq_nil_of_length_eq_zero h) hk.1
    · exact h
  · rw [hg] at h5
    simpa using h5
theorem w_at {n1 : Nat} {l : List Wr} {k : Nat} (h : wAt n1 l k = true) : mayS n1 (l.getD k Wr.zero) = true := by
  unfold wAt at h
  rw [Bool.and_eq_true] at h
  exact h.1
theorem chead_le (l : List UInt8) (site seq n s a b : Int) (m : Nat) : (cheadB l site seq n s a b m).length ≤ l.length + 48 := by
  have h1 := numB_length site
  have h2 := numB_length seq
  have h3 := sput_le (l ++ numB site ++ numB seq) n s
  have h4 := vput_le (sputS (l ++ numB site ++ numB seq) n s) a b
  have h5 := numB_length (m : Int)
  unfold cheadB
  simp only [List.length_append] at *
  omega
theorem wput_le {n : Nat} {c : Wr} (l : List UInt8) (h : mayS n c = true) : (wputS l c).length ≤ l.length + 128 := by
  have hf := may_few h
  have h1 := putText_le l c.k
  have h2 := numB_length c.i
  have h3 := numB_length 1
  have h4 := numB_length 0
  have h5 := putText_le (putTextS l c.k ++ numB c.i ++ numB 0) c.v
  unfold wputS
  split
  · simp only [List.length_append]; omega
  · simp only [List.length_append] at h5 ⊢; omega

end Go.Proofs.YtfkmfccdhmnllaaDoor
end

section
namespace Go.Proofs.YtfkmfccdhmnllaaDoor
open Go Go.RowKit
set_option linter.unusedVariables false

section
variable {P : Program} {ops : Array Oper} {md : Region.Mode}

/-- How one operation ends: the invariant holds with it. -/
def InvEnd (Inv : (Nat → Bool) → (Nat → Value) → World → Prop) (a : Act) (o : Oper) (i : Nat) (L : Nat → Bool) (xs : Nat → Value) (e : Exit) (a' : Act) (w' : World) : Prop :=
  e = .normal ∧ ∃ v, a' = a.put o.dst v ∧ Inv (fun j => if j = i then true else L j) (fun j => if j = i then v else xs j) w'

theorem wpAny_inv {Q : Exit → Act → World → Prop} (act : (Nat → Value) → Act) (Inv : (Nat → Bool) → (Nat → Value) → World → Prop)
    (hwf : ∀ i o, ops[i]? = some o → ∀ e ∈ o.after, Region.binds md e = true → e.on < i)
    (hput : ∀ i o xs v, ops[i]? = some o → (act xs).put o.dst v = act (fun j => if j = i then v else xs j))
    (hop : ∀ i o, ops[i]? = some o → ∀ L xs w, Inv L xs w → L i = false → (∀ e ∈ o.after, Region.binds md e = true → L e.on = true) → wpList P ops (InvEnd Inv (act xs) o i L xs) [o] (act xs) w)
    (hend : ∀ L xs w, Inv L xs w → (∀ i, i < ops.size → L i = true) → Q .normal (act xs) w) :
    ∀ (f : Nat) (listed : Array Bool) (xs : Nat → Value) (w : World), Inv (fun i => listed.getD i true) xs w → listed.size = ops.size → listed.toList.count false ≤ f → wpAny P md ops Q f listed (act xs) w := by
  have hnone : ∀ (listed : Array Bool), listed.size = ops.size → Region.ready md ops listed = [] → ∀ i, i < ops.size → listed.getD i true = true := by
    intro listed hs hr i
    induction i using Nat.strongRecOn with
    | _ i ih =>
      intro hi
      cases hl : listed.getD i true with
      | true => rfl
      | false =>
        have : i ∈ Region.ready md ops listed := by
          refine mem_ready.2 ⟨hl, ops[i], by simp [hi], fun e he hb => ?_⟩
          have hlt := hwf i ops[i] (by simp [hi]) e he hb
          have h1 := ih e.on hlt (by omega)
          have h2 : e.on < listed.size := by omega
          simp only [Array.getD_eq_getD_getElem?, Array.getElem?_eq_getElem h2, Option.getD_some] at h1 ⊢
          exact h1
        rw [hr] at this
        cases this
  intro f
  induction f with
  | zero =>
    intro listed xs w hI hs hc
    have hall : ∀ i, i < ops.size → listed.getD i true = true := by
      intro i hi
      cases hl : listed.getD i true with
      | true => rfl
      | false =>
        have h2 : i < listed.size := by omega
        have h3 : listed[i] = false := by simpa [Array.getD_eq_getD_getElem?, Array.getElem?_eq_getElem h2] using hl
        have : false ∈ listed.toList := by rw [← h3]; simp
        have := List.count_pos_iff.2 this
        omega
    refine ⟨?_, hend _ xs w hI hall⟩
    cases hr : Region.ready md ops listed with
    | nil => rfl
    | cons i r =>
      have hm : i ∈ Region.ready md ops listed := by rw [hr]; simp
      obtain ⟨hun, o, ho, _⟩ := mem_ready.1 hm
      have := hall i (Array.getElem?_eq_some_iff.1 ho).1
      rw [hun] at this
      cases this
  | succ f ih =>
    intro listed xs w hI hs hc
    refine ⟨fun hr => hend _ xs w hI (hnone listed hs hr), fun i hi => ?_⟩
    obtain ⟨hun, o, ho, hall⟩ := mem_ready.1 hi
    have hilt := (Array.getElem?_eq_some_iff.1 ho).1
    have h2 : i < listed.size := by omega
    refine wpOp_of_one ho (fun a' w' h => ?_) (fun e a' w' h => h.1) (hop i o ho _ xs w hI hun fun e he hb => ?_)
    · obtain ⟨_, v, rfl, hI'⟩ := h
      rw [hput i o xs v ho]
      refine ih _ _ w' ?_ (by simpa using hs) ?_
      · have hfe : (fun j => (listed.setIfInBounds i true).getD j true) = (fun j => if j = i then true else listed.getD j true) := by
          funext j
          by_cases hji : j = i
          · subst hji
            simp [Array.getD_eq_getD_getElem?, h2]
          · rw [getD_set_ne true (Ne.symm hji), if_neg hji]
        rw [hfe]
        exact hI'
      · have h3 : listed[i] = false := by simpa [Array.getD_eq_getD_getElem?, Array.getElem?_eq_getElem h2] using hun
        have := count_set_lt listed.toList i (by simp [h2, h3])
        rw [Array.toList_setIfInBounds]
        omega
    · have h1 := hall e he hb
      have h3 : e.on < listed.size := by have := hwf i o ho e he hb; omega
      simp only [Array.getD_eq_getD_getElem?, Array.getElem?_eq_getElem h3, Option.getD_some] at h1 ⊢
      exact h1

def invNeeds (md : Region.Mode) (L : Nat → Bool) : List Edge → Prop
  | [] => True
  | e :: l => (Region.binds md e = true → L e.on = true) ∧ invNeeds md L l
theorem invNeeds_of {L : Nat → Bool} : ∀ (l : List Edge), (∀ e ∈ l, Region.binds md e = true → L e.on = true) → invNeeds md L l
  | [], _ => trivial
  | e :: l, h => ⟨h e (by simp), invNeeds_of l fun e' he => h e' (by simp [he])⟩
def invOps (P : Program) (md : Region.Mode) (ops : Array Oper) (a : Act) (srcs : List (Option Nat)) (Inv : (Nat → Bool) → (Nat → Value) → World → Prop) : List Oper → Nat → Prop
  | [], _ => True
  | o :: l, k => (∀ L xs w, Inv L xs w → L k = false → invNeeds md L o.after.toList → wpList P ops (InvEnd Inv (flowAct a srcs xs) o k L xs) [o] (flowAct a srcs xs) w) ∧ invOps P md ops a srcs Inv l (k + 1)
theorem invOps_get {a : Act} {srcs : List (Option Nat)} {Inv : (Nat → Bool) → (Nat → Value) → World → Prop} : ∀ (l : List Oper) (k : Nat), invOps P md ops a srcs Inv l k → ∀ i o, l[i]? = some o →
    ∀ L xs w, Inv L xs w → L (k + i) = false → invNeeds md L o.after.toList → wpList P ops (InvEnd Inv (flowAct a srcs xs) o (k + i) L xs) [o] (flowAct a srcs xs) w
  | [], _, _, i, o, h => by simp at h
  | o' :: l, k, hh, 0, o, h => by
    obtain rfl : o' = o := by simpa using h
    exact hh.1
  | o' :: l, k, hh, i + 1, o, h => by
    have := invOps_get l (k + 1) hh.2 i o (by simpa using h)
    rwa [show k + 1 + i = k + (i + 1) by omega] at this
theorem wp_region_inv {id : Nat} {Q : Exit → Act → World → Prop} {l : List Oper} {a : Act} {w : World} (srcs : List (Option Nat)) (xs0 : Nat → Value) (Inv : (Nat → Bool) → (Nat → Value) → World → Prop) (hm : P.follows .mixedOrders = true)
    (hB : flowB .any l.toArray srcs = true) (hl : a.tmps.size = srcs.length) (h0 : flowAct a srcs xs0 = a)
    (hI0 : ∀ L, (∀ i, i < l.length → L i = false) → Inv L xs0 { w with drawn := w.drawn + 1 })
    (hops : invOps P .any l.toArray a srcs Inv l 0)
    (hend : ∀ L xs w', Inv L xs w' → (∀ i, i < l.length → L i = true) → Q .normal (flowAct a srcs xs) w') : (Code.region id l.toArray true).wp P Q a w := by
  refine wp_region_any hm ?_
  have := wpAny_inv (P := P) (ops := l.toArray) (md := .any) (Q := Q) (flowAct a srcs) Inv
    (fun i o ho => (flowB_spec hB ho).1) (fun i o xs v ho => flowAct_put hB hl ho xs v)
    (fun i o ho L xs x hI hL hn => by
      have := invOps_get l 0 hops i o (by simpa using ho) L xs x hI (by rwa [Nat.zero_add]) (invNeeds_of _ fun e he hb => hn e (by simpa using he) hb)
      rwa [Nat.zero_add] at this)
    (fun L xs x hI hL => hend L xs x hI (fun i hi => hL i (by simpa using hi)))
    l.toArray.size (Array.replicate l.toArray.size false) xs0 { w with drawn := w.drawn + 1 } (hI0 _ fun i hi => by
      rw [Array.getD_eq_getD_getElem?, Array.getElem?_eq_getElem (by simpa using hi)]; simp) (by simp) (by simp)
  rwa [h0] at this
end
end Go.Proofs.YtfkmfccdhmnllaaDoor
end

section
namespace Go.Proofs.YtfkmfccdhmnllaaDoor
open Go.RowKit Go Go.Sort
set_option linter.unusedVariables false
set_option maxRecDepth 20000

/-- What is told of a region's values stays while memory grows, and while boxes are filled. -/
structure GSt (ty : TypeId) (G : Nat → Value → World → Prop) : Prop where
  grow : ∀ i v X Y, G i v X → Below X.heap.size X Y → G i v Y
  wrote : ∀ i v X Y q cs ds, X.heap[q]? = some (.cells ds ty (0, 0)) → Wrote q cs ty X Y → G i v X → G i v Y
/-- Where the laying of n boxes stands: m operations that tell what G says, n that make boxes, n that fill them with what operation 'sr j' told. -/
def LayG (m n : Nat) (ty : TypeId) (z : Array Value) (G : Nat → Value → World → Prop) (sr : Nat → Nat) (w0 : World) (L : Nat → Bool) (xs : Nat → Value) (w : World) : Prop :=
  Below w0.heap.size w0 w ∧ (∀ i, i < m → L i = true → G i (xs i) w) ∧
  (∀ j, j < n → L (m + j) = true → ∃ g cs, xs (m + j) = .pointer (some ⟨g, 0, none⟩) ∧ w0.heap.size ≤ g ∧ w.heap[g]? = some (.cells cs ty (0, 0)) ∧ (if L (m + n + j) = true then G (sr j) (.agg cs) w else cs = z)) ∧
  (∀ j k, j < n → k < n → j ≠ k → L (m + j) = true → L (m + k) = true → xs (m + j) ≠ xs (m + k)) ∧
  (∀ j, j < n → L (m + n + j) = true → L (m + j) = true)
section
variable {m n : Nat} {ty : TypeId} {z : Array Value} {G : Nat → Value → World → Prop} {sr : Nat → Nat} {w0 w : World} {L : Nat → Bool} {xs : Nat → Value}
theorem LayG.start (h : ∀ i, i < m + n + n → L i = false) : LayG m n ty z G sr w0 L xs { w0 with drawn := w0.drawn + 1 } := by
  have f : ∀ i, i < m + n + n → L i = true → False := fun i hi ht => by rw [h i hi] at ht; cases ht
  exact ⟨⟨rfl, rfl, rfl, Nat.le_refl _, fun _ _ => rfl⟩, fun i hi ht => (f i (by omega) ht).elim, fun j hj ht => (f _ (by omega) ht).elim, fun j k hj hk _ ht _ => (f _ (by omega) ht).elim, fun j hj ht => (f _ (by omega) ht).elim⟩
theorem LayG.below (h : LayG m n ty z G sr w0 L xs w) : Below w0.heap.size w0 w := h.1
theorem LayG.set (hs : GSt ty G) (h : LayG m n ty z G sr w0 L xs w) (i : Nat) (hi : i < m) {w' : World} (hb : Below w.heap.size w w') {v : Value} (hv : G i v w') : LayG m n ty z G sr w0 (fun j => if j = i then true else L j) (fun j => if j = i then v else xs j) w' := by
  obtain ⟨h0, h1, h2, h3, h4⟩ := h
  refine ⟨h0.trans (hb.mono h0.size), fun j hj ht => ?_, fun j hj ht => ?_, fun j k hj hk => ?_, fun j hj => ?_⟩
  · by_cases e : j = i
    · subst e; simpa using hv
    · simp only [if_neg e] at ht ⊢
      exact hs.grow _ _ _ _ (h1 j hj ht) hb
  · simp only [if_neg (show ¬ m + j = i by omega), if_neg (show ¬ m + n + j = i by omega)] at ht ⊢
    obtain ⟨g, cs, e1, e2, e3, e4⟩ := h2 j hj ht
    refine ⟨g, cs, e1, e2, heap_below e3 hb, ?_⟩
    split at e4
    · rename_i hL; rw [if_pos hL]; exact hs.grow _ _ _ _ e4 hb
    · rename_i hL; rw [if_neg hL]; exact e4
  · simp only [if_neg (show ¬ m + j = i by omega), if_neg (show ¬ m + k = i by omega)]
    exact h3 j k hj hk
  · simp only [if_neg (show ¬ m + j = i by omega), if_neg (show ¬ m + n + j = i by omega)]
    exact h4 j hj
theorem LayG.alloc (hs : GSt ty G) (h : LayG m n ty z G sr w0 L xs w) (j : Nat) (hj : j < n) {k : Nat} (hk : k = m + j) (hn : L k = false) : LayG m n ty z G sr w0 (fun i => if i = k then true else L i) (fun i => if i = k then .pointer (some ⟨w.heap.size, 0, none⟩) else xs i) (w.alloc (.cells z ty)) := by
  subst hk
  obtain ⟨h0, h1, h2, h3, h4⟩ := h
  have kb := alloc_below w (.cells z ty)
  have hf : L (m + n + j) = false := by
    cases hx : L (m + n + j) with
    | false => rfl
    | true => rw [h4 j hj hx] at hn; cases hn
  have hne : ∀ i, i < n → L (m + i) = true → xs (m + i) ≠ .pointer (some ⟨w.heap.size, 0, none⟩) := fun i hi ht => by
    obtain ⟨g, cs, e1, e2, e3, e4⟩ := h2 i hi ht
    rw [e1]
    have := (Array.getElem?_eq_some_iff.1 e3).1
    intro e
    simp at e
    try omega
  refine ⟨h0.trans (kb.mono h0.size), fun i hi ht => ?_, fun i hi ht => ?_, fun i k hi hk hne2 hti htk => ?_, fun i hi ht => ?_⟩
  · simp only [if_neg (show ¬ i = m + j by omega)] at ht ⊢
    exact hs.grow _ _ _ _ (h1 i hi ht) kb
  · by_cases e : i = j
    · subst e
      simp only [if_neg (show ¬ m + n + i = m + i by omega), hf, if_pos]
      exact ⟨_, z, rfl, h0.size, heap_alloc_new w _, by simp⟩
    · simp only [if_neg (show ¬ m + i = m + j by omega), if_neg (show ¬ m + n + i = m + j by omega)] at ht ⊢
      obtain ⟨g, cs, e1, e2, e3, e4⟩ := h2 i hi ht
      refine ⟨g, cs, e1, e2, heap_below e3 kb, ?_⟩
      split at e4
      · rename_i hL; rw [if_pos hL]; exact hs.grow _ _ _ _ e4 kb
      · rename_i hL; rw [if_neg hL]; exact e4
  · by_cases e1 : i = j
    · subst e1
      simp only [if_neg (show ¬ m + k = m + i by omega), if_pos] at htk ⊢
      exact (hne k hk htk).symm
    · by_cases e2 : k = j
      · subst e2
        simp only [if_neg (show ¬ m + i = m + k by omega), if_pos] at hti ⊢
        exact hne i hi hti
      · simp only [if_neg (show ¬ m + i = m + j by omega), if_neg (show ¬ m + k = m + j by omega)] at hti htk ⊢
        exact h3 i k hi hk hne2 hti htk
  · by_cases e : i = j
    · subst e; simp
    · simp only [if_neg (show ¬ m + i = m + j by omega), if_neg (show ¬ m + n + i = m + j by omega)] at ht ⊢
      exact h4 i hi ht
theorem LayG.store (hs : GSt ty G) (h : LayG m n ty z G sr w0 L xs w) (j : Nat) (hj : j < n) {k s : Nat} (hk : k = m + j) (hse : s = m + n + j) (hL : L k = true) {g : Nat} (hg : xs k = .pointer (some ⟨g, 0, none⟩)) {cs : Array Value} (hv : G (sr j) (.agg cs) w) {w2 : World} (hw : Wrote g cs ty w w2) (v : Value) :
    LayG m n ty z G sr w0 (fun i => if i = s then true else L i) (fun i => if i = s then v else xs i) w2 := by
  subst hk hse
  obtain ⟨h0, h1, h2, h3, h4⟩ := h
  obtain ⟨g', ds, e1, hB, hgd, -⟩ := h2 j hj hL
  obtain rfl : g' = g := by
    rw [hg] at e1
    injection e1 with e1
    injection e1 with e1
    injection e1 with e1
    exact e1.symm
  have hl := Nat.le_of_lt (Array.getElem?_eq_some_iff.1 hgd).1
  refine ⟨h0.trans (hw.below hB hl), fun i hi ht => ?_, fun i hi ht => ?_, fun i k hi hk hne hti htk => ?_, fun i hi ht => ?_⟩
  · simp only [if_neg (show ¬ i = m + n + j by omega)] at ht ⊢
    exact hs.wrote _ _ _ _ _ _ _ hgd hw (h1 i hi ht)
  · simp only [if_neg (show ¬ m + i = m + n + j by omega)] at ht ⊢
    by_cases e : i = j
    · subst e
      simp only [if_pos]
      exact ⟨g', cs, hg, hB, hw.cell, hs.wrote _ _ _ _ _ _ _ hgd hw hv⟩
    · simp only [if_neg (show ¬ m + n + i = m + n + j by omega)]
      obtain ⟨g2, c2, f1, f2, f3, f4⟩ := h2 i hi ht
      have hne := h3 i j hi hj e ht hL
      have hg2 : g2 ≠ g' := by rintro rfl; exact hne (f1.trans hg.symm)
      refine ⟨g2, c2, f1, f2, (hw.rest g2 (Array.getElem?_eq_some_iff.1 f3).1 hg2).trans f3, ?_⟩
      split at f4
      · rename_i hL2; rw [if_pos hL2]; exact hs.wrote _ _ _ _ _ _ _ hgd hw f4
      · rename_i hL2; rw [if_neg hL2]; exact f4
  · simp only [if_neg (show ¬ m + i = m + n + j by omega), if_neg (show ¬ m + k = m + n + j by omega)] at hti htk ⊢
    exact h3 i k hi hk hne hti htk
  · by_cases e : i = j
    · subst e
      simp only [if_neg (show ¬ m + i = m + n + i by omega)]
      exact hL
    · simp only [if_neg (show ¬ m + i = m + n + j by omega), if_neg (show ¬ m + n + i = m + n + j by omega)] at ht ⊢
      exact h4 i hi ht
theorem LayG.other (h : LayG m n ty z G sr w0 L xs w) (i : Nat) (hi : m + n + n ≤ i) (v : Value) : LayG m n ty z G sr w0 (fun j => if j = i then true else L j) (fun j => if j = i then v else xs j) w := by
  obtain ⟨h0, h1, h2, h3, h4⟩ := h
  refine ⟨h0, fun j hj ht => ?_, fun j hj ht => ?_, fun j k hj hk => ?_, fun j hj => ?_⟩
  · simp only [if_neg (show ¬ j = i by omega)] at ht ⊢; exact h1 j hj ht
  · simp only [if_neg (show ¬ m + j = i by omega), if_neg (show ¬ m + n + j = i by omega)] at ht ⊢; exact h2 j hj ht
  · simp only [if_neg (show ¬ m + j = i by omega), if_neg (show ¬ m + k = i by omega)]; exact h3 j k hj hk
  · simp only [if_neg (show ¬ m + j = i by omega), if_neg (show ¬ m + n + j = i by omega)]; exact h4 j hj
end
/-- A write put into the rows that it is the next of. -/
def rowPut (n1 : Nat) (R : List (List UInt8 × List Cl)) (k : List UInt8) (i : Nat) (x : Cl) : List (List UInt8 × List Cl) :=
  if R.length = 0 ∨ (R.getD (R.length - 1) ([], [])).1 ≠ k then R ++ [(k, (zerosC n1).set i x)] else R.set (R.length - 1) (k, (R.getD (R.length - 1) ([], [])).2.set i x)
def wrowN (gs : List Grp) (n s a b : Int) (ws : List Wr) : Nat → List (List UInt8 × List Cl)
  | 0 => []
  | k + 1 => rowPut gs.length (wrowN gs n s a b ws k) (ws.getD k Wr.zero).k (ws.getD k Wr.zero).i.toNat (cofS (gs.getD (ws.getD k Wr.zero).i.toNat ([], 0)).2 n s a b (ws.getD k Wr.zero).g (ws.getD k Wr.zero).v).1
/-- The rows that a change makes, and an error. -/
def chrowsS (gs : List Grp) (site seq n s a b : Int) (ws : List Wr) : List (List UInt8 × List Cl) × Int := if chgoodS gs site seq n s a b ws = 0 then (wrowN gs n s a b ws ws.length, 0) else ([], chgoodS gs site seq n s a b ws)
theorem rowPut_few (n1 : Nat) (R : List (List UInt8 × List Cl)) (k : List UInt8) (i : Nat) (x : Cl) : (rowPut n1 R k i x).length ≤ R.length + 1 := by
  unfold rowPut
  split
  · simp
  · simp
theorem wrow_few (gs : List Grp) (n s a b : Int) (ws : List Wr) : ∀ k, (wrowN gs n s a b ws k).length ≤ k
  | 0 => Nat.le_refl _
  | k + 1 => Nat.le_trans (rowPut_few _ _ _ _ _) (Nat.succ_le_succ (wrow_few gs n s a b ws k))
theorem prs_at {L : List Rw} {j : Nat} (hj : j < L.length) : (L.map Rw.pr).getD j ([], []) = (L.getD j Rw.zero).pr := by
  rw [List.getD_eq_getElem?_getD, List.getD_eq_getElem?_getD, List.getElem?_map, List.getElem?_eq_getElem hj]; rfl
/-- The rows behind a store into the last one: a new one, or the one there was. -/
theorem put_new {n1 : Nat} {L : List Rw} {R : List (List UInt8 × List Cl)} {k : List UInt8} {i : Nat} {x : Cl} {u : Value} (hR : L.map Rw.pr = R) (h : L.length = 0 ∨ (L.getD (L.length - 1) Rw.zero).k ≠ k) : ((L ++ [(⟨k, u, zerosC n1⟩ : Rw)]).set L.length (⟨k, u, (zerosC n1).set i x⟩ : Rw)).map Rw.pr = rowPut n1 R k i x := by
  subst hR
  unfold rowPut
  rw [List.length_map]
  have hc : L.length = 0 ∨ ((L.map Rw.pr).getD (L.length - 1) ([], [])).1 ≠ k := by
    rcases h with h | h
    · exact .inl h
    · by_cases e : L.length = 0
      · exact .inl e
      · right; rw [prs_at (by omega)]; exact h
  rw [if_pos hc, List.map_set, List.map_append]
  rw [List.set_append_right _ _ (by simp)]
  simp [Rw.pr]
theorem put_old {n1 p : Nat} {L : List Rw} {R : List (List UInt8 × List Cl)} {k : List UInt8} {i : Nat} {x : Cl} (hR : L.map Rw.pr = R) (hp : L.length = p + 1) (h : (L.getD p Rw.zero).k = k) : (L.set p (⟨k, (L.getD p Rw.zero).u, (L.getD p Rw.zero).cs.set i x⟩ : Rw)).map Rw.pr = rowPut n1 R k i x := by
  subst hR
  unfold rowPut
  rw [List.length_map, hp, Nat.add_sub_cancel, prs_at (by omega), if_neg (fun e => e.elim (by omega) (fun e => e h)), List.map_set]
  rfl
end Go.Proofs.YtfkmfccdhmnllaaDoor
end

section
namespace Go.Proofs.YtfkmfccdhmnllaaDoor
open Go.RowKit Go Go.Sort
set_option linter.unusedVariables false
set_option maxRecDepth 20000

/-- Rows as they lie in memory, each with its cells. -/
def RwsAt (W : World) (a : Option Addr) (m cap : Nat) (L : List Rw) : Prop := Ls 2 Rw.arr Rw.zero W a m cap L ∧ ∀ j, j < m → ∃ a' c, (L.getD j Rw.zero).u = .slice a' (L.getD j Rw.zero).cs.length c ∧ Cls W a' (L.getD j Rw.zero).cs.length c (L.getD j Rw.zero).cs
theorem OwnRw.at {W : World} {B n1 : Nat} {v : Value} {L : List Rw} (h : OwnRw W B n1 v L) : ∃ a cap, v = .slice a L.length cap ∧ RwsAt W a L.length cap L := by
  obtain ⟨a, cap, ev, hl⟩ := h.row.ls (z := Rw.zero) rw_size
  exact ⟨a, cap, ev, hl, fun j hj => (h.own j hj).1.cls⟩
theorem RwsAt.below {w w' : World} {a : Option Addr} {m cap : Nat} {L : List Rw} (h : RwsAt w a m cap L) (hb : Below w.heap.size w w') : RwsAt w' a m cap L :=
  ⟨h.1.below hb, fun j hj => by obtain ⟨a', c, e, hc⟩ := h.2 j hj; exact ⟨a', c, e, hc.below hb⟩⟩
theorem RwsAt.place {w : World} {a : Option Addr} {m cap : Nat} {L : List Rw} (h : RwsAt w a m cap L) {k : Nat} (hk : k < m) : ∃ b off a' n' c', a = some ⟨b, off, none⟩ ∧ (L.getD k Rw.zero).u = .slice a' n' c' ∧ n' = (L.getD k Rw.zero).cs.length ∧ Cls w a' n' c' (L.getD k Rw.zero).cs ∧
    ∀ W, Below w.heap.size w W → W.cell? ⟨b, off + k * 2, none⟩ = some (.string (text (L.getD k Rw.zero).k)) ∧ W.cell? ⟨b, off + k * 2 + 1, none⟩ = some (.slice a' n' c') := by
  obtain ⟨b, off, e, hat⟩ := h.1.at hk
  obtain ⟨a', c', eu, hc⟩ := h.2 k hk
  exact ⟨b, off, a', _, c', e, eu, rfl, hc, fun W hb => ⟨hat W hb 0 _ rfl, (hat W hb 1 (L.getD k Rw.zero).u rfl).trans (by rw [eu])⟩⟩
theorem pr_at {la lb : List Rw} (h : la.map Rw.pr = lb.map Rw.pr) {k : Nat} (hk : k < la.length) : (la.getD k Rw.zero).k = (lb.getD k Rw.zero).k ∧ (la.getD k Rw.zero).cs = (lb.getD k Rw.zero).cs := by
  have hl : la.length = lb.length := by have := congrArg List.length h; simpa using this
  have h2 := congrArg (fun l => l[k]?) h
  simp only [List.getElem?_map, List.getElem?_eq_getElem hk, List.getElem?_eq_getElem (show k < lb.length by omega), Option.map_some, Option.some.injEq] at h2
  rw [List.getD_eq_getElem?_getD, List.getD_eq_getElem?_getD, List.getElem?_eq_getElem hk, List.getElem?_eq_getElem (by omega)]
  exact ⟨congrArg Prod.fst h2, congrArg Prod.snd h2⟩

set_option maxRecDepth 100000 in
set_option maxHeartbeats 6400000 in
theorem rall_c {w : World} {x2 y2 : Option Addr} {m cap2 cap3 : Nat} {la lb : List Rw} (ha : RwsAt w x2 m cap2 la) (hb : RwsAt w y2 m cap3 lb) (he : la.map Rw.pr = lb.map Rw.pr) : Calls Tryd.prog 15 #[.slice x2 m cap2, .slice y2 m cap3] w (Tells (.bool true) w) := by
  have hal := ha.1.len
  have hale := ha.1.le
  have hame := ha.1.max
  have hble := hb.1.le
  have hbme := hb.1.max
  have HA := Lib.hid ha
  have HB := Lib.hid hb
  have HE := Lib.hid (fun k (hk : k < m) => pr_at he (k := k) (by rw [hal]; exact hk))
  clear ha hb he hal
  have hmi : (m != m) = false := by simp
  go_enter Tryd.func15, Tryd.ntmps15
  go_wp2
  go_loopw [5] (fun i wr => ∃ k : Nat, k ≤ m ∧ i = .int .i64 (k : Int) ∧ Below w.heap.size w wr) (fun i _ => m - (intOf i).toNat)
  case atStart => exact ⟨0, by omega, rfl, Below.refl _ _⟩
  case round =>
    obtain ⟨k, hk, rfl, hb⟩ := hrel
    have HBx := Lib.hid hb
    clear hb
    by_cases hlt : k < m
    · have hki : (k : Int) < (m : Int) := by omega
      have hkc : (k : Int) < (cap2 : Int) := by omega
      have hkd : (k : Int) < (cap3 : Int) := by omega
      obtain ⟨ba, offa, aa, na, ca, rfl, eu, ena, hca, hat⟩ := HA.out.place hlt
      obtain ⟨bb, offb, ab, nb, cb, rfl, eu2, enb, hcb, hat2⟩ := HB.out.place hlt
      obtain ⟨e1, e2⟩ := HE.out k hlt
      rw [← e1] at hat2
      rw [← e2] at hcb enb
      rw [← ena] at enb
      subst enb
      obtain ⟨kx, hkx⟩ : ∃ z, text (la.getD k Rw.zero).k = z := ⟨_, rfl⟩
      rw [hkx] at hat hat2
      have HPW := Lib.hid (fun W (h : Below wr.heap.size wr W) => hat W (HBx.out.trans (h.mono HBx.out.size)))
      have HQW := Lib.hid (fun W (h : Below wr.heap.size wr W) => hat2 W (HBx.out.trans (h.mono HBx.out.size)))
      have HSM := Lib.hid (fun W (h : Below wr.heap.size wr W) => rrowsame_c (hca.below (HBx.out.trans (h.mono HBx.out.size))) (hcb.below (HBx.out.trans (h.mono HBx.out.size))) kx)
      clear hat hat2 hkx eu eu2 hca hcb e1 e2 ena
      go_upto_region 6 with (fail)
      refine wp_region_flow [none, none, none, none, none, none, none, none, none, none, none, none, none, none, none, none, none, some 0, some 1, some 2, some 3, some 4, some 5, some 6, some 7, some 8, some 9] (fun i => [u17, u18, u19, u20, u21, u22, u23, u24, u25, u26].getD i undef) [(fun v _ => v = .slice (some ⟨ba, offa, none⟩) m cap2), (fun v _ => v = .int .i64 (k : Int)), (fun v _ => v = .pointer (some ⟨ba, offa + k * 2, none⟩)), (fun v _ => v = .agg #[.string kx, .slice aa nb ca]), (fun v _ => v = .slice (some ⟨bb, offb, none⟩) m cap3), (fun v _ => v = .int .i64 (k : Int)), (fun v _ => v = .pointer (some ⟨bb, offb + k * 2, none⟩)), (fun v _ => v = .agg #[.string kx, .slice ab nb cb]), (fun v _ => v = .bool true), (fun v _ => v = .bool false)] (by kernel_rfl) (by kernel_rfl) rfl rfl rfl ?_ ?_ ?_
      · intro g hg v X Y hX hY hv
        simp only [List.mem_cons, List.not_mem_nil, or_false] at hg
        rcases hg with rfl | rfl | rfl | rfl | rfl | rfl | rfl | rfl | rfl | rfl
        all_goals first
          | exact hv
          | exact hv.kept hY
      · simp only [flowOps, and_true]
        refine ⟨?_, ?_, ?_, ?_, ?_, ?_, ?_, ?_, ?_, ?_⟩
        · intro xs W hW hn
          simp only [flowAct, List.zipWith_cons_cons, List.zipWith_nil_left]
          go_wp2_with (fail)
          exact ⟨rfl, _, rfl, Below.refl _ _, rfl⟩
        · intro xs W hW hn
          simp only [flowAct, List.zipWith_cons_cons, List.zipWith_nil_left]
          go_wp2_with (fail)
          exact ⟨rfl, _, rfl, Below.refl _ _, rfl⟩
        · intro xs W hW hn
          simp [flowNeeds, Region.binds] at hn
          simp only [flowAct, List.zipWith_cons_cons, List.zipWith_nil_left]
          try simp only [hn]
          go_wp2_with (fail)
          exact ⟨rfl, _, rfl, Below.refl _ _, rfl⟩
        · intro xs W hW hn
          obtain ⟨p0, p1⟩ := HPW.out W hW
          simp [flowNeeds, Region.binds] at hn
          simp only [flowAct, List.zipWith_cons_cons, List.zipWith_nil_left]
          try simp only [hn]
          go_wp2_with (fail)
          exact ⟨rfl, _, rfl, Below.refl _ _, rfl⟩
        · intro xs W hW hn
          simp only [flowAct, List.zipWith_cons_cons, List.zipWith_nil_left]
          go_wp2_with (fail)
          exact ⟨rfl, _, rfl, Below.refl _ _, rfl⟩
        · intro xs W hW hn
          simp only [flowAct, List.zipWith_cons_cons, List.zipWith_nil_left]
          go_wp2_with (fail)
          exact ⟨rfl, _, rfl, Below.refl _ _, rfl⟩
        · intro xs W hW hn
          simp [flowNeeds, Region.binds] at hn
          simp only [flowAct, List.zipWith_cons_cons, List.zipWith_nil_left]
          try simp only [hn]
          go_wp2_with (fail)
          exact ⟨rfl, _, rfl, Below.refl _ _, rfl⟩
        · intro xs W hW hn
          obtain ⟨q0, q1⟩ := HQW.out W hW
          simp [flowNeeds, Region.binds] at hn
          simp only [flowAct, List.zipWith_cons_cons, List.zipWith_nil_left]
          try simp only [hn]
          go_wp2_with (fail)
          exact ⟨rfl, _, rfl, Below.refl _ _, rfl⟩
        · intro xs W hW hn
          simp [flowNeeds, Region.binds] at hn
          simp only [flowAct, List.zipWith_cons_cons, List.zipWith_nil_left]
          simp only [hn]
          go_wp2_with (go_at_call 41; (with_reducible refine (HSM.out W hW).mono ?_); rintro e9 w9 ⟨rfl, hb9⟩)
          exact ⟨rfl, _, rfl, hb9, rfl⟩
        · intro xs W hW hn
          simp [flowNeeds, Region.binds] at hn
          simp only [flowAct, List.zipWith_cons_cons, List.zipWith_nil_left]
          try simp only [hn]
          go_wp2_with (fail)
          exact ⟨rfl, _, rfl, Below.refl _ _, rfl⟩
      · intro xs W hW hall
        simp only [flowAll, and_true, Nat.zero_add, Nat.reduceAdd] at hall
        obtain ⟨-, -, -, -, -, -, -, -, -, eL⟩ := hall
        simp only [flowAct, List.zipWith_cons_cons, List.zipWith_nil_left]
        simp only [eL]
        have HBy := Lib.hid (HBx.out.trans (hW.mono HBx.out.size))
        clear eL hW
        go_wp2
        go_roundw
        case rel => exact ⟨k + 1, by omega, by go_num, HBy.out⟩
        case measure => simp [intOf]; omega
    · obtain rfl : m = k := by omega
      go_wp2
      go_ret
      exact ⟨rfl, HBx.out⟩
end Go.Proofs.YtfkmfccdhmnllaaDoor
end

section
namespace Go.Proofs.YtfkmfccdhmnllaaDoor
open Go.RowKit Go Go.Sort
set_option linter.unusedVariables false
set_option maxRecDepth 20000

def RwsPost (r : List (List UInt8 × List Cl) × Int) (n1 : Nat) (w : World) (e : Ending) (w' : World) : Prop := ∃ v L, e = .returned (.tuple #[v, .int .i64 r.2]) ∧ OwnRw w' w.heap.size n1 v L ∧ L.map Rw.pr = r.1 ∧ Below w.heap.size w w'
theorem rcof_x (p n s a b : Int) (g : Bool) (t : List UInt8) (hmax : t.length ≤ 9223372036854775807) : ∃ (n9 s9 a9 b9 : Int) (g9 : Bool) (t9 : List UInt8) (d9 e9 f9 : Int), (cofS p n s a b g t).1 = ⟨n9, s9, a9, b9, g9, t9, d9, e9⟩ ∧ ∀ w : World, Calls Tryd.prog 32 #[.int .i64 p, .agg #[.int .i64 n, .int .i64 s], .agg #[.int .i64 a, .int .i64 b], .bool g, .string (text t)] w (Tells (.tuple #[.agg #[.int .i64 n9, .int .i64 s9, .int .i64 a9, .int .i64 b9, .bool g9, .string (text t9), .int .i64 d9, .int .i64 e9], .int .i64 f9]) w) := by
  have h := fun w => rcof_c p n s a b g t hmax w
  obtain ⟨⟨⟨n9, s9, a9, b9, g9, t9, d9, e9⟩, f9⟩, hz⟩ : ∃ z, cofS p n s a b g t = z := ⟨_, rfl⟩
  rw [hz] at h
  exact ⟨n9, s9, a9, b9, g9, t9, d9, e9, f9, by rw [hz], h⟩
theorem put_only {W : World} {g m c k : Nat} (n9 s9 a9 b9 : Int) (g9 : Bool) (t9 : List UInt8) (d9 e9 : Int) : OnlyV (.slice (some ⟨g, 0, none⟩) m c) W (((((((((W.setCell ⟨g, k * 8, none⟩ (.int .i64 n9)).setCell ⟨g, k * 8 + 1, none⟩ (.int .i64 s9)).setCell ⟨g, k * 8 + 2, none⟩ (.int .i64 a9)).setCell ⟨g, k * 8 + 3, none⟩ (.int .i64 b9)).setCell ⟨g, k * 8 + 4, none⟩ (.bool g9)).setCell ⟨g, k * 8 + 5, none⟩ (.string (text t9))).setCell ⟨g, k * 8 + 6, none⟩ (.int .i64 d9)).setCell ⟨g, k * 8 + 7, none⟩ (.int .i64 e9))) :=
  ((((((((OnlyV.refl _ W).cell _ _).cell _ _).cell _ _).cell _ _).cell _ _).cell _ _).cell _ _).cell _ _
theorem Wrote.cell8 {W : World} {q : Nat} {n s a b d e : Int} {g : Bool} {t : List UInt8} (h : Cel W q n s a b g t d e) (n9 s9 a9 b9 : Int) (g9 : Bool) (t9 : List UInt8) (d9 e9 : Int) : Wrote q #[.int .i64 n9, .int .i64 s9, .int .i64 a9, .int .i64 b9, .bool g9, .string (text t9), .int .i64 d9, .int .i64 e9] 67 W ((((((((W.setCell ⟨q, 0, none⟩ (.int .i64 n9)).setCell ⟨q, 1, none⟩ (.int .i64 s9)).setCell ⟨q, 2, none⟩ (.int .i64 a9)).setCell ⟨q, 3, none⟩ (.int .i64 b9)).setCell ⟨q, 4, none⟩ (.bool g9)).setCell ⟨q, 5, none⟩ (.string (text t9))).setCell ⟨q, 6, none⟩ (.int .i64 d9)).setCell ⟨q, 7, none⟩ (.int .i64 e9)) := by
  have ho : OnlyV (.slice (some ⟨q, 0, none⟩) 1 1) W _ := ((((((((OnlyV.refl _ W).cell 0 (.int .i64 n9)).cell 1 (.int .i64 s9)).cell 2 (.int .i64 a9)).cell 3 (.int .i64 b9)).cell 4 (.bool g9)).cell 5 (.string (text t9))).cell 6 (.int .i64 d9)).cell 7 (.int .i64 e9)
  exact ⟨ho.os, ho.tape, ho.output, Nat.le_of_eq ho.size.symm, h.put n9 s9 a9 b9 g9 t9 d9 e9, fun k hk hne => ho.rest k (fun e => hne (by injection e))⟩
theorem RwsAt.len {W : World} {a : Option Addr} {m cap : Nat} {L : List Rw} (h : RwsAt W a m cap L) : m ≤ cap ∧ cap ≤ 9223372036854775807 := ⟨h.1.le, h.1.max⟩
theorem OwnRw.last {W : World} {B n1 p ct : Nat} {a : Option Addr} {L : List Rw} (h : OwnRw W B n1 (.slice a (p + 1) ct) L) (hl : L.length = p + 1) {k : List UInt8} {u : Value} {cs : List Cl} (hp : L.getD p Rw.zero = ⟨k, u, cs⟩) : ∃ br offr, a = some ⟨br, offr, none⟩ ∧ p + 1 ≤ ct ∧ ct ≤ 9223372036854775807 ∧
    (∀ W', Below W.heap.size W W' → W'.cell? ⟨br, offr + p * 2, none⟩ = some (.string (text k)) ∧ W'.cell? ⟨br, offr + p * 2 + 1, none⟩ = some u) ∧ OwnC W B u cs ∧ cs.length = n1 := by
  obtain ⟨a9, c9, ev, hr⟩ := h.at
  rw [hl] at ev hr
  injection ev with e1 e2 e3
  subst e1 e3
  obtain ⟨br, offr, a', n', c', e, eu, en, hc, hat⟩ := hr.place (k := p) (by omega)
  have ho := h.own p (by omega)
  rw [hp] at hat eu ho
  simp only at hat eu ho
  exact ⟨br, offr, e, hr.len.1, hr.len.2, fun W' hb => by rw [eu]; exact hat W' hb, ho.1, ho.2⟩
set_option maxRecDepth 100000 in
set_option maxHeartbeats 12800000 in
theorem rchrows_c {w : World} {x x2 : Option Addr} {n1 cap m cap2 : Nat} {gs : List Grp} {l : List Wr} (hg : Grs w x n1 cap gs) (hs : ∀ g ∈ gs, g.1.length ≤ 9223372036854775807) (hl : Wrs w x2 m cap2 l) (hx : WShort l) (site seq n s a b : Int) :
    Calls Tryd.prog 12 #[.slice x n1 cap, .agg #[.int .i64 site, .int .i64 seq, .int .i64 n, .int .i64 s, .int .i64 a, .int .i64 b, .slice x2 m cap2]] w (RwsPost (chrowsS gs site seq n s a b l) n1 w) := by
  have hgl := hg.len
  have hgle := hg.le
  have hgmx := hg.max
  have hll := hl.len
  have hle2 := hl.le
  have hmax2 := hl.max
  have HGD := Lib.hid (fun W (h : Below w.heap.size w W) => rchgood_c (hg.below h) hs (hl.below h) hx site seq n s a b)
  have HIV := Lib.hid (@ch_inv gs site seq n s a b l)
  have HP := Lib.hid (show chgoodS gs site seq n s a b l = 0 → chrowsS gs site seq n s a b l = (wrowN gs n s a b l m, 0) from fun h => by unfold chrowsS; rw [if_pos h, hll])
  have HQ := Lib.hid (show ¬ chgoodS gs site seq n s a b l = 0 → chrowsS gs site seq n s a b l = ([], chgoodS gs site seq n s a b l) from fun h => by unfold chrowsS; rw [if_neg h])
  have HL := Lib.hid hl
  have HG := Lib.hid hg
  obtain ⟨RV, hRV⟩ : ∃ z, chrowsS gs site seq n s a b l = z := ⟨_, rfl⟩
  rw [hRV] at HP HQ ⊢
  obtain ⟨R, hR⟩ : ∃ z, chgoodS gs site seq n s a b l = z := ⟨_, rfl⟩
  rw [hR] at HP HQ HIV
  simp only [hR] at HGD
  have hr := heap_alloc_new w (.cells #[.int .i64 site, .int .i64 seq, .int .i64 n, .int .i64 s, .int .i64 a, .int .i64 b, .slice x2 m cap2] 29)
  have hb := alloc_below w (.cells #[.int .i64 site, .int .i64 seq, .int .i64 n, .int .i64 s, .int .i64 a, .int .i64 b, .slice x2 m cap2] 29)
  clear hRV hR hg hs hl hx
  go_enter Tryd.func12, Tryd.ntmps12
  go_upto_region 1 with (fail)
  obtain ⟨B, hB⟩ : ∃ q, w.heap.size = q := ⟨_, rfl⟩
  have HBe := Lib.hid hB
  rw [hB] at hr ⊢
  clear hB
  generalize w.alloc (.cells #[.int .i64 site, .int .i64 seq, .int .i64 n, .int .i64 s, .int .i64 a, .int .i64 b, .slice x2 m cap2] 29) = W1 at *
  obtain ⟨c0, c1, c2, c3, c4, c5, c6⟩ := ch_cells hr
  have HR1 := Lib.hid hr
  have HB1 := Lib.hid hb
  clear hr hb
  by_cases h0 : R = 0
  · subst h0
    have HRR := Lib.hid (HP.out (by first | rfl | trivial))
    obtain ⟨hp0, hhd, hall⟩ := HIV.out (by first | rfl | trivial)
    have hn4 := pgood_len hp0
    rw [hll] at hhd hall
    obtain ⟨-, -, -, -, -, -, -, hd4, hd5⟩ := head_ok hhd
    have HALL := Lib.hid hall
    clear HP HQ HIV hp0 hall hhd
    go_upto_region 6 with (go_at_call 14; (with_reducible refine (HGD.out _ HB1.out).mono ?_); rintro e9 w2 ⟨rfl, hb2⟩)
    have HB2 := Lib.hid (HB1.out.trans (hb2.mono HB1.out.size))
    have HR2 := Lib.hid (heap_below HR1.out hb2)
    clear hb2 HR1 HB1 HGD c0 c1 c2 c3 c4 c5 c6
    go_wp2
    go_loopw [7, 8] (fun o i wr => ∃ (k : Nat) (v : Value) (L : List Rw), k ≤ m ∧ i = .int .i64 (k : Int) ∧ o = v ∧ OwnRw wr w.heap.size n1 v L ∧ L.map Rw.pr = wrowN gs n s a b l k ∧ Below w.heap.size w wr ∧ wr.heap[B]? = some (.cells #[.int .i64 site, .int .i64 seq, .int .i64 n, .int .i64 s, .int .i64 a, .int .i64 b, .slice x2 m cap2] 29 (0, 0))) (fun _ i _ => m - (intOf i).toNat)
    case atStart => exact ⟨0, .slice none 0 0, [], by omega, rfl, rfl, OwnRw.nil _ _ _, rfl, HB2.out, HR2.out⟩
    case round =>
      clear HB2 HR2
      obtain ⟨k, v, L, hk, rfl, rfl, ho, hpr, hb, hr⟩ := hrel
      obtain ⟨c0, c1, c2, c3, c4, c5, c6⟩ := ch_cells hr
      have hfew := wrow_few gs n s a b l k
      rw [← hpr, List.length_map] at hfew
      obtain ⟨al, cl, ev, -⟩ := ho.at
      obtain ⟨ll, hLL⟩ : ∃ z, L.length = z := ⟨_, rfl⟩
      rw [hLL] at hfew ev
      subst ev
      have HLL := Lib.hid hLL
      have HO := Lib.hid ho
      have HPR := Lib.hid hpr
      have HBr := Lib.hid hb
      have HRr := Lib.hid hr
      clear hLL ho hpr hb hr
      by_cases hlt : k < m
      · have hki : (k : Int) < (m : Int) := by omega
        have hkc : (k : Int) < (cap2 : Int) := by omega
        obtain ⟨bl, offl, rfl, hat⟩ := HL.out.place hlt
        obtain ⟨f1, -, f2, f3, f4, -⟩ := may_few (w_at (HALL.out k hlt))
        have HN := Lib.hid (show wrowN gs n s a b l (k + 1) = rowPut gs.length (wrowN gs n s a b l k) (l.getD k Wr.zero).k (l.getD k Wr.zero).i.toNat (cofS (gs.getD (l.getD k Wr.zero).i.toNat ([], 0)).2 n s a b (l.getD k Wr.zero).g (l.getD k Wr.zero).v).1 from rfl)
        obtain ⟨y, hy⟩ : ∃ y, l.getD k Wr.zero = y := ⟨_, rfl⟩
        rw [hy] at hat HN f1 f2 f3 f4
        obtain ⟨kx, ix, gx, vx⟩ := y
        simp only at hat HN f1 f2 f3 f4
        obtain ⟨ii, rfl⟩ : ∃ ii : Nat, ix = (ii : Int) := ⟨ix.toNat, by omega⟩
        rw [Int.toNat_natCast, ← HPR.out, hgl] at HN
        have hii : ii < n1 := by omega
        have hiic : (ii : Int) < (cap : Int) := by omega
        have hiin : (ii : Int) < (n1 : Int) := by omega
        obtain ⟨bg, og, rfl, hgat⟩ := HG.out.at hii
        obtain ⟨⟨gn, pk⟩, hgn⟩ : ∃ z, gs.getD ii ([], 0) = z := ⟨_, rfl⟩
        rw [hgn] at hgat HN
        simp only at hgat HN
        obtain ⟨n9, s9, a9, b9, g9, t9, d9, e9, f9, hof, hcof⟩ := rcof_x pk n s a b gx vx (by omega)
        rw [hof] at HN
        have HCO := Lib.hid hcof
        have HAT := Lib.hid (hat _ HBr.out)
        have HGT := Lib.hid hgat
        clear hat hgat hcof hof hgn hy f1 f2 f3 f4
        obtain ⟨l0, l1, l2, l3⟩ := HAT.out
        go_upto_region 9 with (fail)
        clear c0 c1 c2 c3 c4 c5 c6 l0 l1 l2 l3 HAT
        have hal := alloc_below wr (.cells #[.string (text kx), .int .i64 (ii : Int), .bool gx, .string (text vx)] 31)
        have HS9 := Lib.hid (heap_alloc_new wr (.cells #[.string (text kx), .int .i64 (ii : Int), .bool gx, .string (text vx)] 31))
        have HB9 := Lib.hid (HBr.out.trans (hal.mono HBr.out.size))
        have HR9 := Lib.hid (heap_below HRr.out hal)
        have HO9 := Lib.hid (HO.out.kept hal)
        obtain ⟨gw, hgw⟩ : ∃ z, wr.heap.size = z := ⟨_, rfl⟩
        have HGW := Lib.hid (show w.heap.size ≤ gw by rw [← hgw]; exact HBr.out.size)
        rw [hgw] at HS9 ⊢
        generalize wr.alloc (.cells #[.string (text kx), .int .i64 (ii : Int), .bool gx, .string (text vx)] 31) = W9 at *
        clear hal hgw HBr HRr HO
        have hn0 : 0 < n1 := by omega
        have hklt : ll ≤ 8 := by omega
        by_cases hl0 : ll = 0
        · have HZ0 := Lib.hid (show ((ll : Int) == 0) = true by simp [hl0])
          have HL0 := Lib.hid hl0
          clear hl0
          refine wp_region_flow [none, none, none, none, none, none, none, none, none, none, none, none, none, none, none, none, none, none, none, none, none, none, none, none, none, none, none, none, none, none, some 0, some 1, some 2, some 3, some 4, some 5, some 6, some 7, some 8, some 9, some 10, some 11, some 12, some 13, some 14, none, none, none, none, none, none, none, none, none, none, none, none, none, none, none, none, none, none, none, none, none, none, none, none, none, none, none, none, none, none, none, none, none, none, none, none, none] (fun i => [u30, u31, u32, u33, u34, u35, u36, u37, u38, u39, u40, u41, u42, u43, u44].getD i undef) [(fun v _ => v = .slice al ll cl), (fun v _ => v = .int .i64 (ll : Int)), (fun v _ => v = .bool true), (fun v _ => v = .bool true), (fun v _ => v = undef), (fun v _ => v = undef), (fun v _ => v = undef), (fun v _ => v = undef), (fun v _ => v = undef), (fun v _ => v = undef), (fun v _ => v = undef), (fun v _ => v = undef), (fun v _ => v = undef), (fun v _ => v = undef), (fun v _ => v = .bool true)] (by kernel_rfl) (by kernel_rfl) rfl rfl rfl ?_ ?_ ?_
          · intro g hg v X Y hX hY hv
            simp only [List.mem_cons, List.not_mem_nil, or_false] at hg
            rcases hg with rfl | rfl | rfl | rfl | rfl | rfl | rfl | rfl | rfl | rfl | rfl | rfl | rfl | rfl | rfl
            all_goals first
              | exact hv
              | exact hv.kept hY
          · simp only [flowOps, and_true]
            refine ⟨?_, ?_, ?_, ?_, ?_, ?_, ?_, ?_, ?_, ?_, ?_, ?_, ?_, ?_, ?_⟩
            · intro xs W hW hn
              simp only [flowAct, List.zipWith_cons_cons, List.zipWith_nil_left]
              go_wp2_with (fail)
              exact ⟨rfl, _, rfl, Below.refl _ _, rfl⟩
            · intro xs W hW hn
              simp [flowNeeds, Region.binds] at hn
              simp only [flowAct, List.zipWith_cons_cons, List.zipWith_nil_left]
              try simp only [hn]
              go_wp2_with (fail)
              exact ⟨rfl, _, rfl, Below.refl _ _, rfl⟩
            · intro xs W hW hn
              have hz := HZ0.out
              simp [flowNeeds, Region.binds] at hn
              simp only [flowAct, List.zipWith_cons_cons, List.zipWith_nil_left]
              try simp only [hn]
              go_wp2_with (fail)
              exact ⟨rfl, _, rfl, Below.refl _ _, rfl⟩
            · intro xs W hW hn
              simp [flowNeeds, Region.binds] at hn
              simp only [flowAct, List.zipWith_cons_cons, List.zipWith_nil_left]
              try simp only [hn]
              go_wp2_with (fail)
              exact ⟨rfl, _, rfl, Below.refl _ _, rfl⟩
            · intro xs W hW hn
              simp [flowNeeds, Region.binds] at hn
              simp only [flowAct, List.zipWith_cons_cons, List.zipWith_nil_left]
              try simp only [hn]
              go_wp2_with (fail)
              exact ⟨rfl, _, rfl, Below.refl _ _, rfl⟩
            · intro xs W hW hn
              simp [flowNeeds, Region.binds] at hn
              simp only [flowAct, List.zipWith_cons_cons, List.zipWith_nil_left]
              try simp only [hn]
              go_wp2_with (fail)
              exact ⟨rfl, _, rfl, Below.refl _ _, rfl⟩
            · intro xs W hW hn
              simp [flowNeeds, Region.binds] at hn
              simp only [flowAct, List.zipWith_cons_cons, List.zipWith_nil_left]
              try simp only [hn]
              go_wp2_with (fail)
              exact ⟨rfl, _, rfl, Below.refl _ _, rfl⟩
            · intro xs W hW hn
              simp [flowNeeds, Region.binds] at hn
              simp only [flowAct, List.zipWith_cons_cons, List.zipWith_nil_left]
              try simp only [hn]
              go_wp2_with (fail)
              exact ⟨rfl, _, rfl, Below.refl _ _, rfl⟩
            · intro xs W hW hn
              simp [flowNeeds, Region.binds] at hn
              simp only [flowAct, List.zipWith_cons_cons, List.zipWith_nil_left]
              try simp only [hn]
              go_wp2_with (fail)
              exact ⟨rfl, _, rfl, Below.refl _ _, rfl⟩
            · intro xs W hW hn
              simp [flowNeeds, Region.binds] at hn
              simp only [flowAct, List.zipWith_cons_cons, List.zipWith_nil_left]
              try simp only [hn]
              go_wp2_with (fail)
              exact ⟨rfl, _, rfl, Below.refl _ _, rfl⟩
            · intro xs W hW hn
              simp [flowNeeds, Region.binds] at hn
              simp only [flowAct, List.zipWith_cons_cons, List.zipWith_nil_left]
              try simp only [hn]
              go_wp2_with (fail)
              exact ⟨rfl, _, rfl, Below.refl _ _, rfl⟩
            · intro xs W hW hn
              simp [flowNeeds, Region.binds] at hn
              simp only [flowAct, List.zipWith_cons_cons, List.zipWith_nil_left]
              try simp only [hn]
              go_wp2_with (fail)
              exact ⟨rfl, _, rfl, Below.refl _ _, rfl⟩
            · intro xs W hW hn
              simp [flowNeeds, Region.binds] at hn
              simp only [flowAct, List.zipWith_cons_cons, List.zipWith_nil_left]
              try simp only [hn]
              go_wp2_with (fail)
              exact ⟨rfl, _, rfl, Below.refl _ _, rfl⟩
            · intro xs W hW hn
              simp [flowNeeds, Region.binds] at hn
              simp only [flowAct, List.zipWith_cons_cons, List.zipWith_nil_left]
              try simp only [hn]
              go_wp2_with (fail)
              exact ⟨rfl, _, rfl, Below.refl _ _, rfl⟩
            · intro xs W hW hn
              simp [flowNeeds, Region.binds] at hn
              simp only [flowAct, List.zipWith_cons_cons, List.zipWith_nil_left]
              try simp only [hn]
              go_wp2_with (fail)
              exact ⟨rfl, _, rfl, Below.refl _ _, rfl⟩
          · intro xs W hW hall
            simp only [flowAll, and_true, Nat.zero_add, Nat.reduceAdd] at hall
            obtain ⟨-, -, -, -, -, -, -, -, -, -, -, -, -, -, eL⟩ := hall
            simp only [flowAct, List.zipWith_cons_cons, List.zipWith_nil_left]
            simp only [eL]
            have hbk := HB9.out.trans (hW.mono HB9.out.size)
            have hrk := heap_below HR9.out hW
            have hsk := heap_below HS9.out hW
            have hok := HO9.out.kept hW
            clear eL
            obtain ⟨WK, hWK⟩ : ∃ X, W = X := ⟨_, rfl⟩
            rw [hWK] at hbk hrk hsk hok ⊢
            clear hWK hW HB9 HR9 HS9 HO9
            have HBT := Lib.hid hbk
            have HRT := Lib.hid hrk
            have HST := Lib.hid hsk
            have HOT := Lib.hid hok
            clear hbk hrk hsk hok
            obtain ⟨w0, w1, w2, w3⟩ := wr_cells HST.out
            have hzl : (zerosC n1).length = n1 := by simp [zerosC]
            have HZL := Lib.hid hzl
            go_upto_region 11 with (first
              | (go_at_call 31; (with_reducible refine (rempty_c hgle hgmx (by omega) (text kx)).mono ?_); rintro e9 w5 ⟨u, rfl, hou, hb5⟩; obtain ⟨gc, cc, rfl, hgcB, hccl, hgclt⟩ := own_some hou (by rw [HZL.out]; omega); rw [HZL.out] at hou hccl ⊢; have HB5 := Lib.hid (HBT.out.trans (hb5.mono HBT.out.size)); have HR5 := Lib.hid (heap_below HRT.out hb5); have HS5 := Lib.hid (heap_below HST.out hb5); have HO5 := Lib.hid (HOT.out.kept hb5); have HOU := Lib.hid hou; have HLTB := Lib.hid hb5.size; have HBT2 := Lib.hid (Nat.le_trans HBT.out.size hgcB))
              | (at_builtin; refine wpList_append_rw rfl _ _ rfl (u := .slice al ll cl) rfl HO5.out.row kx _ _ _ (zerosC n1) rfl (by rw [HLL.out]; omega) HB5.out.size ?_; intro v' w' ho' hg'; have hpush := HO5.out.push HZL.out HOU.out (by omega) HBT.out.size (fun j hj q hq => ((HOT.out.own j hj).1.lt q hq).2) _ ho' hg'; obtain ⟨at', ct', evt, -⟩ := hpush.at; rw [List.length_append, List.length_singleton, HLL.out] at evt; subst evt))
            have HB8 := Lib.hid ((HB5.out.alloc HB5.out.size (.cells #[.string (text kx), .slice (some ⟨gc, 0, none⟩) n1 cc] 60)).grown hg' (by simp; have := HB5.out.size; omega) (fun z e => (HO5.out.row.lt z e).1))
            have HR8 := Lib.hid (heap_grown ((Below.heap_alloc w5 (.cells #[.string (text kx), .slice (some ⟨gc, 0, none⟩) n1 cc] 60) B (Array.getElem?_eq_some_iff.1 HR5.out).1).trans HR5.out) hg' (own_ne HR5.out (by decide) HO5.out.row))
            have HS8 := Lib.hid (heap_grown ((Below.heap_alloc w5 (.cells #[.string (text kx), .slice (some ⟨gc, 0, none⟩) n1 cc] 60) gw (Array.getElem?_eq_some_iff.1 HS5.out).1).trans HS5.out) hg' (own_ne HS5.out (by decide) HO5.out.row))
            have HO8 := Lib.hid hpush
            have HLP := Lib.hid (show (L ++ [(⟨kx, .slice (some ⟨gc, 0, none⟩) n1 cc, zerosC n1⟩ : Rw)]).getD ll Rw.zero = ⟨kx, .slice (some ⟨gc, 0, none⟩) n1 cc, zerosC n1⟩ by rw [getD_push, HLL.out]; simp)
            have HPUT := Lib.hid (show ((L ++ [(⟨kx, .slice (some ⟨gc, 0, none⟩) n1 cc, zerosC n1⟩ : Rw)]).set ll (⟨kx, .slice (some ⟨gc, 0, none⟩) n1 cc, (zerosC n1).set ii ⟨n9, s9, a9, b9, g9, t9, d9, e9⟩⟩ : Rw)).map Rw.pr = wrowN gs n s a b l (k + 1) by rw [HN.out, ← HLL.out]; exact put_new rfl (.inl (HLL.out.trans HL0.out)))
            have HTL := Lib.hid (show (L ++ [(⟨kx, .slice (some ⟨gc, 0, none⟩) n1 cc, zerosC n1⟩ : Rw)]).length = ll + 1 by rw [List.length_append, HLL.out]; rfl)
            obtain ⟨br, offr, eat, hct1, hct2, hcl8, hoc8, hcs8⟩ := HO8.out.last HTL.out HLP.out
            subst eat
            have HLC8 := Lib.hid hcl8
            have HOC8 := Lib.hid hoc8
            have HCS8 := Lib.hid hcs8
            clear hcl8 hoc8 hcs8 hpush ho' hg' HOU HO5 HS5 HR5 HB5 HOT HST HRT HBT w0 w1 w2 w3
            obtain ⟨LT, hLT⟩ : ∃ z, (L ++ [(⟨kx, .slice (some ⟨gc, 0, none⟩) n1 cc, zerosC n1⟩ : Rw)]) = z := ⟨_, rfl⟩
            rw [hLT] at HO8 HLP HPUT HTL
            clear hLT
            obtain ⟨CS, hCS⟩ : ∃ z, zerosC n1 = z := ⟨_, rfl⟩
            rw [hCS] at HLP HPUT HOC8 HCS8
            clear hCS
            have HGC := Lib.hid (show w.heap.size ≤ gc by have := HBT2.out; omega)
            obtain ⟨M9, hM9⟩ : ∃ z, ll + 1 = z := ⟨_, rfl⟩
            rw [hM9] at HO8 hct1 ⊢
            have HM9 := Lib.hid (show (M9 : Int) - 1 = ((ll : Nat) : Int) by omega)
            have hM8 : ((ll : Nat) : Int) < (M9 : Int) := by omega
            have hM7 : ((ll : Nat) : Int) < (ct' : Int) := by omega
            have HMM := Lib.hid hM9
            clear hM9
            have HGS := Lib.hid (show GSt 67 (fun i v _ => v = [.slice (some ⟨bg, og, none⟩) n1 cap, .pointer (some ⟨gw, 1, none⟩), .int .i64 (ii : Int), .pointer (some ⟨bg, og + ii * 2, none⟩), .pointer (some ⟨bg, og + ii * 2 + 1, none⟩), .int .i64 pk, .pointer (some ⟨B, 2, none⟩), .agg #[.int .i64 n, .int .i64 s], .pointer (some ⟨B, 4, none⟩), .agg #[.int .i64 a, .int .i64 b], .pointer (some ⟨gw, 2, none⟩), .bool gx, .pointer (some ⟨gw, 3, none⟩), .string (text vx), .tuple #[.agg #[.int .i64 n9, .int .i64 s9, .int .i64 a9, .int .i64 b9, .bool g9, .string (text t9), .int .i64 d9, .int .i64 e9], .int .i64 f9], .tuple #[.agg #[.int .i64 n9, .int .i64 s9, .int .i64 a9, .int .i64 b9, .bool g9, .string (text t9), .int .i64 d9, .int .i64 e9], .int .i64 f9], .agg #[.int .i64 n9, .int .i64 s9, .int .i64 a9, .int .i64 b9, .bool g9, .string (text t9), .int .i64 d9, .int .i64 e9], .int .i64 f9].getD i undef) from ⟨fun i v X Y h _ => h, fun i v X Y q cs ds _ _ h => h⟩)
            refine wp_region_inv [none, none, none, none, none, none, none, none, none, none, some 18, some 20, none, none, none, none, none, none, none, none, none, none, none, none, none, none, none, none, none, none, none, none, none, none, none, none, none, none, none, none, none, none, none, none, none, none, none, none, none, none, none, none, some 15, some 0, some 1, some 2, some 3, some 4, some 5, some 6, some 7, some 8, some 9, some 10, some 11, some 12, some 13, some 14, some 16, some 17, none, none, none, none, none, none, none, none, none, none, none, none] (fun i => [u53, u54, u55, u56, u57, u58, u59, u60, u61, u62, u63, u64, u65, u66, u67, u52, u68, u69, u10, undef, u11].getD i undef) (LayG 18 1 67 #[.int .i64 0, .int .i64 0, .int .i64 0, .int .i64 0, .bool false, .string ⟨#[]⟩, .int .i64 0, .int .i64 0] (fun i v _ => v = [.slice (some ⟨bg, og, none⟩) n1 cap, .pointer (some ⟨gw, 1, none⟩), .int .i64 (ii : Int), .pointer (some ⟨bg, og + ii * 2, none⟩), .pointer (some ⟨bg, og + ii * 2 + 1, none⟩), .int .i64 pk, .pointer (some ⟨B, 2, none⟩), .agg #[.int .i64 n, .int .i64 s], .pointer (some ⟨B, 4, none⟩), .agg #[.int .i64 a, .int .i64 b], .pointer (some ⟨gw, 2, none⟩), .bool gx, .pointer (some ⟨gw, 3, none⟩), .string (text vx), .tuple #[.agg #[.int .i64 n9, .int .i64 s9, .int .i64 a9, .int .i64 b9, .bool g9, .string (text t9), .int .i64 d9, .int .i64 e9], .int .i64 f9], .tuple #[.agg #[.int .i64 n9, .int .i64 s9, .int .i64 a9, .int .i64 b9, .bool g9, .string (text t9), .int .i64 d9, .int .i64 e9], .int .i64 f9], .agg #[.int .i64 n9, .int .i64 s9, .int .i64 a9, .int .i64 b9, .bool g9, .string (text t9), .int .i64 d9, .int .i64 e9], .int .i64 f9].getD i undef) (fun _ => 16) w') (by kernel_rfl) (by kernel_rfl) rfl rfl (fun LL hL => LayG.start fun i hi => hL i (Nat.lt_of_lt_of_le hi (by decide))) ?_ ?_
            · simp only [invOps, and_true]
              refine ⟨?_, ?_, ?_, ?_, ?_, ?_, ?_, ?_, ?_, ?_, ?_, ?_, ?_, ?_, ?_, ?_, ?_, ?_, ?_, ?_, ?_⟩
              · intro LL xs W hI hL hn
                simp only [flowAct, List.zipWith_cons_cons, List.zipWith_nil_left]
                go_wp2_with (fail)
                exact ⟨rfl, _, rfl, hI.set HGS.out 0 (by decide) (Below.refl _ _) rfl⟩
              · intro LL xs W hI hL hn
                simp only [flowAct, List.zipWith_cons_cons, List.zipWith_nil_left]
                go_wp2_with (fail)
                exact ⟨rfl, _, rfl, hI.set HGS.out 1 (by decide) (Below.refl _ _) rfl⟩
              · intro LL xs W hI hL hn
                obtain ⟨w0, w1, w2, w3⟩ := wr_cells (heap_below HS8.out hI.below)
                simp [invNeeds, Region.binds] at hn
                have e1 : xs 1 = .pointer (some ⟨gw, 1, none⟩) := hI.2.1 1 (by decide) (by simp only [hn])
                simp only [flowAct, List.zipWith_cons_cons, List.zipWith_nil_left]
                simp only [e1]
                go_wp2_with (fail)
                exact ⟨rfl, _, rfl, hI.set HGS.out 2 (by decide) (Below.refl _ _) rfl⟩
              · intro LL xs W hI hL hn
                simp [invNeeds, Region.binds] at hn
                have e0 : xs 0 = .slice (some ⟨bg, og, none⟩) n1 cap := hI.2.1 0 (by decide) (by simp only [hn])
                have e2 : xs 2 = .int .i64 (ii : Int) := hI.2.1 2 (by decide) (by simp only [hn])
                simp only [flowAct, List.zipWith_cons_cons, List.zipWith_nil_left]
                simp only [e0, e2]
                go_wp2_with (fail)
                exact ⟨rfl, _, rfl, hI.set HGS.out 3 (by decide) (Below.refl _ _) rfl⟩
              · intro LL xs W hI hL hn
                simp [invNeeds, Region.binds] at hn
                have e3 : xs 3 = .pointer (some ⟨bg, og + ii * 2, none⟩) := hI.2.1 3 (by decide) (by simp only [hn])
                simp only [flowAct, List.zipWith_cons_cons, List.zipWith_nil_left]
                simp only [e3]
                go_wp2_with (fail)
                exact ⟨rfl, _, rfl, hI.set HGS.out 4 (by decide) (Below.refl _ _) rfl⟩
              · intro LL xs W hI hL hn
                obtain ⟨g0, g1⟩ := HGT.out W (HB8.out.trans (hI.below.mono HB8.out.size))
                simp [invNeeds, Region.binds] at hn
                have e4 : xs 4 = .pointer (some ⟨bg, og + ii * 2 + 1, none⟩) := hI.2.1 4 (by decide) (by simp only [hn])
                simp only [flowAct, List.zipWith_cons_cons, List.zipWith_nil_left]
                simp only [e4]
                go_wp2_with (fail)
                exact ⟨rfl, _, rfl, hI.set HGS.out 5 (by decide) (Below.refl _ _) rfl⟩
              · intro LL xs W hI hL hn
                simp only [flowAct, List.zipWith_cons_cons, List.zipWith_nil_left]
                go_wp2_with (fail)
                exact ⟨rfl, _, rfl, hI.set HGS.out 6 (by decide) (Below.refl _ _) rfl⟩
              · intro LL xs W hI hL hn
                obtain ⟨c0, c1, c2, c3, c4, c5, c6⟩ := ch_cells (heap_below HR8.out hI.below)
                simp [invNeeds, Region.binds] at hn
                have e6 : xs 6 = .pointer (some ⟨B, 2, none⟩) := hI.2.1 6 (by decide) (by simp only [hn])
                simp only [flowAct, List.zipWith_cons_cons, List.zipWith_nil_left]
                simp only [e6]
                go_wp2_with (fail)
                exact ⟨rfl, _, rfl, hI.set HGS.out 7 (by decide) (Below.refl _ _) rfl⟩
              · intro LL xs W hI hL hn
                simp only [flowAct, List.zipWith_cons_cons, List.zipWith_nil_left]
                go_wp2_with (fail)
                exact ⟨rfl, _, rfl, hI.set HGS.out 8 (by decide) (Below.refl _ _) rfl⟩
              · intro LL xs W hI hL hn
                obtain ⟨c0, c1, c2, c3, c4, c5, c6⟩ := ch_cells (heap_below HR8.out hI.below)
                simp [invNeeds, Region.binds] at hn
                have e8 : xs 8 = .pointer (some ⟨B, 4, none⟩) := hI.2.1 8 (by decide) (by simp only [hn])
                simp only [flowAct, List.zipWith_cons_cons, List.zipWith_nil_left]
                simp only [e8]
                go_wp2_with (fail)
                exact ⟨rfl, _, rfl, hI.set HGS.out 9 (by decide) (Below.refl _ _) rfl⟩
              · intro LL xs W hI hL hn
                simp only [flowAct, List.zipWith_cons_cons, List.zipWith_nil_left]
                go_wp2_with (fail)
                exact ⟨rfl, _, rfl, hI.set HGS.out 10 (by decide) (Below.refl _ _) rfl⟩
              · intro LL xs W hI hL hn
                obtain ⟨w0, w1, w2, w3⟩ := wr_cells (heap_below HS8.out hI.below)
                simp [invNeeds, Region.binds] at hn
                have e10 : xs 10 = .pointer (some ⟨gw, 2, none⟩) := hI.2.1 10 (by decide) (by simp only [hn])
                simp only [flowAct, List.zipWith_cons_cons, List.zipWith_nil_left]
                simp only [e10]
                go_wp2_with (fail)
                exact ⟨rfl, _, rfl, hI.set HGS.out 11 (by decide) (Below.refl _ _) rfl⟩
              · intro LL xs W hI hL hn
                simp only [flowAct, List.zipWith_cons_cons, List.zipWith_nil_left]
                go_wp2_with (fail)
                exact ⟨rfl, _, rfl, hI.set HGS.out 12 (by decide) (Below.refl _ _) rfl⟩
              · intro LL xs W hI hL hn
                obtain ⟨w0, w1, w2, w3⟩ := wr_cells (heap_below HS8.out hI.below)
                simp [invNeeds, Region.binds] at hn
                have e12 : xs 12 = .pointer (some ⟨gw, 3, none⟩) := hI.2.1 12 (by decide) (by simp only [hn])
                simp only [flowAct, List.zipWith_cons_cons, List.zipWith_nil_left]
                simp only [e12]
                go_wp2_with (fail)
                exact ⟨rfl, _, rfl, hI.set HGS.out 13 (by decide) (Below.refl _ _) rfl⟩
              · intro LL xs W hI hL hn
                simp [invNeeds, Region.binds] at hn
                have e5 : xs 5 = .int .i64 pk := hI.2.1 5 (by decide) (by simp only [hn])
                have e7 : xs 7 = .agg #[.int .i64 n, .int .i64 s] := hI.2.1 7 (by decide) (by simp only [hn])
                have e9 : xs 9 = .agg #[.int .i64 a, .int .i64 b] := hI.2.1 9 (by decide) (by simp only [hn])
                have e11 : xs 11 = .bool gx := hI.2.1 11 (by decide) (by simp only [hn])
                have e13 : xs 13 = .string (text vx) := hI.2.1 13 (by decide) (by simp only [hn])
                simp only [flowAct, List.zipWith_cons_cons, List.zipWith_nil_left]
                simp only [e5, e7, e9, e11, e13]
                go_wp2_with (go_at_call 32; (with_reducible refine (HCO.out _).mono ?_); rintro e9 w9 ⟨rfl, hb9⟩)
                exact ⟨rfl, _, rfl, hI.set HGS.out 14 (by decide) hb9 rfl⟩
              · intro LL xs W hI hL hn
                simp [invNeeds, Region.binds] at hn
                have e14 : xs 14 = .tuple #[.agg #[.int .i64 n9, .int .i64 s9, .int .i64 a9, .int .i64 b9, .bool g9, .string (text t9), .int .i64 d9, .int .i64 e9], .int .i64 f9] := hI.2.1 14 (by decide) (by simp only [hn])
                simp only [flowAct, List.zipWith_cons_cons, List.zipWith_nil_left]
                simp only [e14]
                go_wp2_with (fail)
                exact ⟨rfl, _, rfl, hI.set HGS.out 15 (by decide) (Below.refl _ _) rfl⟩
              · intro LL xs W hI hL hn
                simp [invNeeds, Region.binds] at hn
                have e15 : xs 15 = .tuple #[.agg #[.int .i64 n9, .int .i64 s9, .int .i64 a9, .int .i64 b9, .bool g9, .string (text t9), .int .i64 d9, .int .i64 e9], .int .i64 f9] := hI.2.1 15 (by decide) (by simp only [hn])
                simp only [flowAct, List.zipWith_cons_cons, List.zipWith_nil_left]
                simp only [e15]
                go_wp2_with (fail)
                exact ⟨rfl, _, rfl, hI.set HGS.out 16 (by decide) (Below.refl _ _) rfl⟩
              · intro LL xs W hI hL hn
                simp [invNeeds, Region.binds] at hn
                have e15 : xs 15 = .tuple #[.agg #[.int .i64 n9, .int .i64 s9, .int .i64 a9, .int .i64 b9, .bool g9, .string (text t9), .int .i64 d9, .int .i64 e9], .int .i64 f9] := hI.2.1 15 (by decide) (by simp only [hn])
                simp only [flowAct, List.zipWith_cons_cons, List.zipWith_nil_left]
                simp only [e15]
                go_wp2_with (fail)
                exact ⟨rfl, _, rfl, hI.set HGS.out 17 (by decide) (Below.refl _ _) rfl⟩
              · intro LL xs W hI hL hn
                simp only [flowAct, List.zipWith_cons_cons, List.zipWith_nil_left]
                go_wp2_with (fail)
                exact ⟨rfl, _, rfl, hI.alloc HGS.out 0 (by decide) rfl hL⟩
              · intro LL xs W hI hL hn
                simp [invNeeds, Region.binds] at hn
                obtain ⟨hk, hv⟩ : LL 18 = true ∧ LL 16 = true := by simp only [hn, and_self]
                obtain ⟨g5, cs5, eg, lg, hgc, hz5⟩ := hI.2.2.1 0 (by decide) hk
                rw [if_neg (by rw [show LL (18 + 1 + 0) = false from hL]; decide)] at hz5
                subst hz5
                have e0 : xs 16 = .agg #[.int .i64 n9, .int .i64 s9, .int .i64 a9, .int .i64 b9, .bool g9, .string (text t9), .int .i64 d9, .int .i64 e9] := hI.2.1 16 (by decide) hv
                have e1 : xs 18 = .pointer (some ⟨g5, 0, none⟩) := eg
                have hc5 : Cel W g5 0 0 0 0 false [] 0 0 := hgc
                obtain ⟨p0, p1, p2, p3, p4, p5, p6, p7⟩ := hc5.cs
                have pfz := hc5.fz
                simp only [flowAct, List.zipWith_cons_cons, List.zipWith_nil_left]
                simp only [e0, e1]
                go_wp2_with (fail)
                exact ⟨rfl, undef, rfl, hI.store HGS.out 0 (by decide) rfl rfl hk eg rfl (Wrote.cell8 hc5 n9 s9 a9 b9 g9 t9 d9 e9) undef⟩
              · intro LL xs W hI hL hn
                simp [invNeeds, Region.binds] at hn
                have e17 : xs 17 = .int .i64 f9 := hI.2.1 17 (by decide) (by simp only [hn])
                simp only [flowAct, List.zipWith_cons_cons, List.zipWith_nil_left]
                simp only [e17]
                go_wp2_with (fail)
                exact ⟨rfl, _, rfl, hI.other 20 (by decide) _⟩
            · intro LL xs W hI hall
              obtain ⟨hW, -, hP, -, -⟩ := hI
              obtain ⟨gx9, cs7, e7, l7, h7, g7⟩ := hP 0 (by decide) (hall 18 (by decide))
              rw [if_pos (hall (18 + 1 + 0) (by decide))] at g7
              have g7 : Value.agg cs7 = .agg #[.int .i64 n9, .int .i64 s9, .int .i64 a9, .int .i64 b9, .bool g9, .string (text t9), .int .i64 d9, .int .i64 e9] := g7
              injection g7 with g7
              subst g7
              clear g7
              replace e7 : xs 18 = _ := e7
              clear hP hall
              simp only [flowAct, List.zipWith_cons_cons, List.zipWith_nil_left]
              simp only [e7]
              have hbk := HB8.out.trans (hW.mono HB8.out.size)
              have hrk := heap_below HR8.out hW
              have hsk := heap_below HS8.out hW
              have hok := HO8.out.kept hW
              have hoc := HOC8.out.kept hW
              have hlc := fun W' (h : Below W.heap.size W W') => HLC8.out W' (hW.trans (h.mono hW.size))
              have hce : Cel W gx9 n9 s9 a9 b9 g9 t9 d9 e9 := h7
              clear e7 h7 hW HGS HGT
              obtain ⟨WK, hWK⟩ : ∃ X, W = X := ⟨_, rfl⟩
              rw [hWK] at hbk hrk hsk hok hoc hlc hce ⊢
              clear hWK HB8 HR8 HS8 HO8 HOC8 HLC8
              have HB7 := Lib.hid hbk
              have HR7 := Lib.hid hrk
              have HS7 := Lib.hid hsk
              have HO7 := Lib.hid hok
              have HOC7 := Lib.hid hoc
              have HLC7 := Lib.hid hlc
              have HCE := Lib.hid hce
              clear hbk hrk hsk hok hoc hlc hce
              go_upto_region 12 with (fail)
              refine wp_region_flow_tail 10 [none, none, none, none, none, none, none, none, none, none, none, none, none, none, none, none, none, none, none, none, none, none, none, none, none, none, none, none, none, none, none, none, none, none, none, none, none, none, none, none, none, none, none, none, none, none, none, none, none, none, none, none, none, none, none, none, none, none, none, none, none, none, none, none, none, none, none, none, none, none, some 0, some 1, some 2, some 3, some 4, some 5, some 6, some 7, some 8, some 9, none, none] (fun i => [u70, u71, u72, u73, u74, u75, u76, u77, u78, u79].getD i undef) [(fun v _ => v = .slice (some ⟨br, offr, none⟩) M9 ct'), (fun v _ => v = .slice (some ⟨br, offr, none⟩) M9 ct'), (fun v _ => v = .int .i64 (M9 : Int)), (fun v _ => v = .int .i64 ((ll : Nat) : Int)), (fun v _ => v = .pointer (some ⟨br, offr + ll * 2, none⟩)), (fun v _ => v = .pointer (some ⟨br, offr + ll * 2 + 1, none⟩)), (fun v _ => v = .slice (some ⟨gc, 0, none⟩) n1 cc), (fun v _ => v = .pointer (some ⟨gw, 1, none⟩)), (fun v _ => v = .int .i64 (ii : Int)), (fun v _ => v = .agg #[.int .i64 n9, .int .i64 s9, .int .i64 a9, .int .i64 b9, .bool g9, .string (text t9), .int .i64 d9, .int .i64 e9])] (fun _ => False) (by kernel_rfl) (by kernel_rfl) (by kernel_rfl) rfl rfl rfl ?_ ?_ ?_
              · intro g hg v X Y hX hY hv
                simp only [List.mem_cons, List.not_mem_nil, or_false] at hg
                rcases hg with rfl | rfl | rfl | rfl | rfl | rfl | rfl | rfl | rfl | rfl
                all_goals first
                  | exact hv
                  | exact hv.kept hY
              · simp only [flowOpsF, List.take_succ_cons, List.take_zero, and_true]
                refine ⟨?_, ?_, ?_, ?_, ?_, ?_, ?_, ?_, ?_, ?_⟩
                · intro xs W hW hn
                  simp only [flowAct, List.zipWith_cons_cons, List.zipWith_nil_left]
                  go_wp2_with (fail)
                  exact ⟨rfl, _, rfl, Below.refl _ _, rfl, fun h => h.elim⟩
                · intro xs W hW hn
                  simp only [flowAct, List.zipWith_cons_cons, List.zipWith_nil_left]
                  go_wp2_with (fail)
                  exact ⟨rfl, _, rfl, Below.refl _ _, rfl, fun h => h.elim⟩
                · intro xs W hW hn
                  simp [flowNeeds, Region.binds] at hn
                  simp only [flowAct, List.zipWith_cons_cons, List.zipWith_nil_left]
                  try simp only [hn]
                  go_wp2_with (fail)
                  exact ⟨rfl, _, rfl, Below.refl _ _, rfl, fun h => h.elim⟩
                · intro xs W hW hn
                  have hm9 := HM9.out
                  simp [flowNeeds, Region.binds] at hn
                  simp only [flowAct, List.zipWith_cons_cons, List.zipWith_nil_left]
                  simp only [hn]
                  go_wp2_with (fail)
                  exact ⟨rfl, _, rfl, Below.refl _ _, by first | rfl | go_num, fun h => h.elim⟩
                · intro xs W hW hn
                  simp [flowNeeds, Region.binds] at hn
                  simp only [flowAct, List.zipWith_cons_cons, List.zipWith_nil_left]
                  try simp only [hn]
                  go_wp2_with (fail)
                  exact ⟨rfl, _, rfl, Below.refl _ _, rfl, fun h => h.elim⟩
                · intro xs W hW hn
                  simp [flowNeeds, Region.binds] at hn
                  simp only [flowAct, List.zipWith_cons_cons, List.zipWith_nil_left]
                  try simp only [hn]
                  go_wp2_with (fail)
                  exact ⟨rfl, _, rfl, Below.refl _ _, rfl, fun h => h.elim⟩
                · intro xs W hW hn
                  obtain ⟨r0, r1⟩ := HLC7.out W hW
                  simp [flowNeeds, Region.binds] at hn
                  simp only [flowAct, List.zipWith_cons_cons, List.zipWith_nil_left]
                  try simp only [hn]
                  go_wp2_with (fail)
                  exact ⟨rfl, _, rfl, Below.refl _ _, rfl, fun h => h.elim⟩
                · intro xs W hW hn
                  simp only [flowAct, List.zipWith_cons_cons, List.zipWith_nil_left]
                  go_wp2_with (fail)
                  exact ⟨rfl, _, rfl, Below.refl _ _, rfl, fun h => h.elim⟩
                · intro xs W hW hn
                  obtain ⟨w0, w1, w2, w3⟩ := wr_cells (heap_below HS7.out hW)
                  simp [flowNeeds, Region.binds] at hn
                  simp only [flowAct, List.zipWith_cons_cons, List.zipWith_nil_left]
                  try simp only [hn]
                  go_wp2_with (fail)
                  exact ⟨rfl, _, rfl, Below.refl _ _, rfl, fun h => h.elim⟩
                · intro xs W hW hn
                  obtain ⟨p0, p1, p2, p3, p4, p5, p6, p7⟩ := (HCE.out.kept hW).cs
                  simp only [flowAct, List.zipWith_cons_cons, List.zipWith_nil_left]
                  go_wp2_with (fail)
                  exact ⟨rfl, _, rfl, Below.refl _ _, rfl, fun h => h.elim⟩
              · intro xs W hW hall hfr
                clear hfr
                simp only [flowAll, and_true, Nat.zero_add, Nat.reduceAdd] at hall
                obtain ⟨-, -, -, -, -, -, y6, -, y8, y9⟩ := hall
                simp only [flowAct, List.zipWith_cons_cons, List.zipWith_nil_left, List.drop_succ_cons, List.drop_zero]
                simp only [y6, y8, y9]
                have HBx := Lib.hid (HB7.out.trans (hW.mono HB7.out.size))
                have HRx := Lib.hid (heap_below HR7.out hW)
                have HOx := Lib.hid (HO7.out.kept hW)
                have HOCx := Lib.hid (HOC7.out.kept hW)
                have hlk : ii < CS.length := by have := HCS8.out; omega
                have HLK := Lib.hid hlk
                have pfz := own_fz HOCx.out
                obtain ⟨p0, p1, p2, p3, p4, p5, p6, p7⟩ := own_at HOCx.out hlk _ (Below.refl _ _)
                clear y6 y8 y9 hW hlk
                go_wp2
                go_roundw
                case rel => exact ⟨k + 1, _, LT.set ll ⟨kx, .slice (some ⟨gc, 0, none⟩) n1 cc, CS.set ii ⟨n9, s9, a9, b9, g9, t9, d9, e9⟩⟩, by omega, by go_num, rfl, (by have hst := OwnRw.store HOx.out (j := ll) (by rw [HTL.out]; omega) (by rw [HLP.out]; exact put_only (k := ii) n9 s9 a9 b9 g9 t9 d9 e9) (by rw [HLP.out]; exact own_put HOCx.out HLK.out n9 s9 a9 b9 g9 t9 d9 e9) (by rw [List.length_set]; exact HCS8.out) hn0; rw [HLP.out] at hst; exact hst), HPUT.out, cells_put_below (k := ii) HBx.out HGC.out n9 s9 a9 b9 g9 t9 d9 e9, ((put_only (g := gc) (m := n1) (c := cc) (k := ii) n9 s9 a9 b9 g9 t9 d9 e9).rest B (own_ne HRx.out (by decide) HOCx.out)).trans HRx.out⟩
                case measure => simp [intOf]; omega
            
        · obtain ⟨p, rfl⟩ : ∃ p, ll = p + 1 := ⟨ll - 1, by omega⟩
          clear hl0
          have HZ0 := Lib.hid (show (((p + 1 : Nat) : Int) == 0) = false by simp; omega)
          obtain ⟨⟨kl, ul, csl⟩, hlp⟩ : ∃ z, L.getD p Rw.zero = z := ⟨_, rfl⟩
          obtain ⟨br, offr, eal, hct1, hct2, hcl, hoc, hcs⟩ := HO9.out.last HLL.out hlp
          subst eal
          obtain ⟨gc, cc, rfl, hgcB, hccl, hgclt⟩ := own_some hoc (by omega)
          rw [hcs] at hccl hcl hoc hlp
          have HLP := Lib.hid hlp
          have HLC := Lib.hid hcl
          have HOC := Lib.hid hoc
          have HCS := Lib.hid hcs
          have hp0 : (p : Int) < ((p + 1 : Nat) : Int) := by omega
          have hp1 : (p : Int) < (cl : Int) := by omega
          have hp2 : (0 : Int) < ((p + 1 : Nat) : Int) := by omega
          have hte := text_eqb kl kx
          obtain ⟨Q, hQ⟩ : ∃ z, (kl == kx) = z := ⟨_, rfl⟩
          rw [hQ] at hte
          have HTE := Lib.hid hte
          have HQ9 := Lib.hid hQ
          clear hlp hcl hoc hcs hte hQ
          refine wp_region_flow [none, none, none, none, none, none, none, none, none, none, none, none, none, none, none, none, none, none, none, none, none, none, none, none, none, none, none, none, none, none, some 0, some 1, some 2, some 3, some 4, some 5, some 6, some 7, some 8, some 9, some 10, some 11, some 12, some 13, some 14, none, none, none, none, none, none, none, none, none, none, none, none, none, none, none, none, none, none, none, none, none, none, none, none, none, none, none, none, none, none, none, none, none, none, none, none, none] (fun i => [u30, u31, u32, u33, u34, u35, u36, u37, u38, u39, u40, u41, u42, u43, u44].getD i undef) [(fun v _ => v = .slice (some ⟨br, offr, none⟩) (p + 1) cl), (fun v _ => v = .int .i64 ((p + 1 : Nat) : Int)), (fun v _ => v = .bool false), (fun v _ => v = .bool false), (fun v _ => v = .slice (some ⟨br, offr, none⟩) (p + 1) cl), (fun v _ => v = .slice (some ⟨br, offr, none⟩) (p + 1) cl), (fun v _ => v = .int .i64 ((p + 1 : Nat) : Int)), (fun v _ => v = .int .i64 (p : Int)), (fun v _ => v = .pointer (some ⟨br, offr + p * 2, none⟩)), (fun v _ => v = .pointer (some ⟨br, offr + p * 2, none⟩)), (fun v _ => v = .string (text kl)), (fun v _ => v = .pointer (some ⟨gw, 0, none⟩)), (fun v _ => v = .string (text kx)), (fun v _ => v = .bool (!Q)), (fun v _ => v = .bool (!Q))] (by kernel_rfl) (by kernel_rfl) rfl rfl rfl ?_ ?_ ?_
          · intro g hg v X Y hX hY hv
            simp only [List.mem_cons, List.not_mem_nil, or_false] at hg
            rcases hg with rfl | rfl | rfl | rfl | rfl | rfl | rfl | rfl | rfl | rfl | rfl | rfl | rfl | rfl | rfl
            all_goals first
              | exact hv
              | exact hv.kept hY
          · simp only [flowOps, and_true]
            refine ⟨?_, ?_, ?_, ?_, ?_, ?_, ?_, ?_, ?_, ?_, ?_, ?_, ?_, ?_, ?_⟩
            · intro xs W hW hn
              simp only [flowAct, List.zipWith_cons_cons, List.zipWith_nil_left]
              go_wp2_with (fail)
              exact ⟨rfl, _, rfl, Below.refl _ _, rfl⟩
            · intro xs W hW hn
              simp [flowNeeds, Region.binds] at hn
              simp only [flowAct, List.zipWith_cons_cons, List.zipWith_nil_left]
              try simp only [hn]
              go_wp2_with (fail)
              exact ⟨rfl, _, rfl, Below.refl _ _, rfl⟩
            · intro xs W hW hn
              have hz := HZ0.out
              simp [flowNeeds, Region.binds] at hn
              simp only [flowAct, List.zipWith_cons_cons, List.zipWith_nil_left]
              simp only [hn]
              go_wp2_with (fail)
              exact ⟨rfl, _, rfl, Below.refl _ _, by go_num⟩
            · intro xs W hW hn
              simp [flowNeeds, Region.binds] at hn
              simp only [flowAct, List.zipWith_cons_cons, List.zipWith_nil_left]
              try simp only [hn]
              go_wp2_with (fail)
              exact ⟨rfl, _, rfl, Below.refl _ _, rfl⟩
            · intro xs W hW hn
              simp [flowNeeds, Region.binds] at hn
              simp only [flowAct, List.zipWith_cons_cons, List.zipWith_nil_left]
              try simp only [hn]
              go_wp2_with (fail)
              exact ⟨rfl, _, rfl, Below.refl _ _, rfl⟩
            · intro xs W hW hn
              simp [flowNeeds, Region.binds] at hn
              simp only [flowAct, List.zipWith_cons_cons, List.zipWith_nil_left]
              try simp only [hn]
              go_wp2_with (fail)
              exact ⟨rfl, _, rfl, Below.refl _ _, rfl⟩
            · intro xs W hW hn
              simp [flowNeeds, Region.binds] at hn
              simp only [flowAct, List.zipWith_cons_cons, List.zipWith_nil_left]
              try simp only [hn]
              go_wp2_with (fail)
              exact ⟨rfl, _, rfl, Below.refl _ _, rfl⟩
            · intro xs W hW hn
              simp [flowNeeds, Region.binds] at hn
              simp only [flowAct, List.zipWith_cons_cons, List.zipWith_nil_left]
              simp only [hn]
              go_wp2_with (fail)
              exact ⟨rfl, _, rfl, Below.refl _ _, by go_num⟩
            · intro xs W hW hn
              simp [flowNeeds, Region.binds] at hn
              simp only [flowAct, List.zipWith_cons_cons, List.zipWith_nil_left]
              try simp only [hn]
              go_wp2_with (fail)
              exact ⟨rfl, _, rfl, Below.refl _ _, rfl⟩
            · intro xs W hW hn
              simp [flowNeeds, Region.binds] at hn
              simp only [flowAct, List.zipWith_cons_cons, List.zipWith_nil_left]
              try simp only [hn]
              go_wp2_with (fail)
              exact ⟨rfl, _, rfl, Below.refl _ _, rfl⟩
            · intro xs W hW hn
              obtain ⟨r0, r1⟩ := HLC.out W hW
              simp [flowNeeds, Region.binds] at hn
              simp only [flowAct, List.zipWith_cons_cons, List.zipWith_nil_left]
              try simp only [hn]
              go_wp2_with (fail)
              exact ⟨rfl, _, rfl, Below.refl _ _, rfl⟩
            · intro xs W hW hn
              simp [flowNeeds, Region.binds] at hn
              simp only [flowAct, List.zipWith_cons_cons, List.zipWith_nil_left]
              try simp only [hn]
              go_wp2_with (fail)
              exact ⟨rfl, _, rfl, Below.refl _ _, rfl⟩
            · intro xs W hW hn
              obtain ⟨w0, w1, w2, w3⟩ := wr_cells (heap_below HS9.out hW)
              simp [flowNeeds, Region.binds] at hn
              simp only [flowAct, List.zipWith_cons_cons, List.zipWith_nil_left]
              try simp only [hn]
              go_wp2_with (fail)
              exact ⟨rfl, _, rfl, Below.refl _ _, rfl⟩
            · intro xs W hW hn
              have hte := HTE.out
              simp [flowNeeds, Region.binds] at hn
              simp only [flowAct, List.zipWith_cons_cons, List.zipWith_nil_left]
              try simp only [hn]
              go_wp2_with (fail)
              exact ⟨rfl, _, rfl, Below.refl _ _, rfl⟩
            · intro xs W hW hn
              simp [flowNeeds, Region.binds] at hn
              simp only [flowAct, List.zipWith_cons_cons, List.zipWith_nil_left]
              try simp only [hn]
              go_wp2_with (fail)
              exact ⟨rfl, _, rfl, Below.refl _ _, rfl⟩
          · intro xs W hW hall
            simp only [flowAll, and_true, Nat.zero_add, Nat.reduceAdd] at hall
            obtain ⟨-, -, -, -, -, -, -, -, -, -, -, -, -, -, eL⟩ := hall
            simp only [flowAct, List.zipWith_cons_cons, List.zipWith_nil_left]
            simp only [eL]
            have hbk := HB9.out.trans (hW.mono HB9.out.size)
            have hrk := heap_below HR9.out hW
            have hsk := heap_below HS9.out hW
            have hok := HO9.out.kept hW
            clear eL
            have hct0 := fun W' (h : Below W.heap.size W W') => HLC.out W' (hW.trans (h.mono hW.size))
            have hoc0 := HOC.out.kept hW
            obtain ⟨WK, hWK⟩ : ∃ X, W = X := ⟨_, rfl⟩
            rw [hWK] at hbk hrk hsk hok hct0 hoc0 ⊢
            clear hWK hW HB9 HR9 HS9 HO9
            have HLCT := Lib.hid hct0
            have HOCT := Lib.hid hoc0
            clear hct0 hoc0
            have HBT := Lib.hid hbk
            have HRT := Lib.hid hrk
            have HST := Lib.hid hsk
            have HOT := Lib.hid hok
            clear hbk hrk hsk hok
            cases Q with
            | false =>
              obtain ⟨w0, w1, w2, w3⟩ := wr_cells HST.out
              have hzl : (zerosC n1).length = n1 := by simp [zerosC]
              have HZL := Lib.hid hzl
              go_upto_region 11 with (first
                | (go_at_call 31; (with_reducible refine (rempty_c hgle hgmx (by omega) (text kx)).mono ?_); rintro e9 w5 ⟨u, rfl, hou, hb5⟩; obtain ⟨gc, cc, rfl, hgcB, hccl, hgclt⟩ := own_some hou (by rw [HZL.out]; omega); rw [HZL.out] at hou hccl ⊢; have HB5 := Lib.hid (HBT.out.trans (hb5.mono HBT.out.size)); have HR5 := Lib.hid (heap_below HRT.out hb5); have HS5 := Lib.hid (heap_below HST.out hb5); have HO5 := Lib.hid (HOT.out.kept hb5); have HOU := Lib.hid hou; have HLTB := Lib.hid hb5.size; have HBT2 := Lib.hid (Nat.le_trans HBT.out.size hgcB))
                | (at_builtin; refine wpList_append_rw rfl _ _ rfl (u := .slice (some ⟨br, offr, none⟩) (p + 1) cl) rfl HO5.out.row kx _ _ _ (zerosC n1) rfl (by rw [HLL.out]; omega) HB5.out.size ?_; intro v' w' ho' hg'; have hpush := HO5.out.push HZL.out HOU.out (by omega) HBT.out.size (fun j hj q hq => ((HOT.out.own j hj).1.lt q hq).2) _ ho' hg'; obtain ⟨at', ct', evt, -⟩ := hpush.at; rw [List.length_append, List.length_singleton, HLL.out] at evt; subst evt))
              have HB8 := Lib.hid ((HB5.out.alloc HB5.out.size (.cells #[.string (text kx), .slice (some ⟨gc, 0, none⟩) n1 cc] 60)).grown hg' (by simp; have := HB5.out.size; omega) (fun z e => (HO5.out.row.lt z e).1))
              have HR8 := Lib.hid (heap_grown ((Below.heap_alloc w5 (.cells #[.string (text kx), .slice (some ⟨gc, 0, none⟩) n1 cc] 60) B (Array.getElem?_eq_some_iff.1 HR5.out).1).trans HR5.out) hg' (own_ne HR5.out (by decide) HO5.out.row))
              have HS8 := Lib.hid (heap_grown ((Below.heap_alloc w5 (.cells #[.string (text kx), .slice (some ⟨gc, 0, none⟩) n1 cc] 60) gw (Array.getElem?_eq_some_iff.1 HS5.out).1).trans HS5.out) hg' (own_ne HS5.out (by decide) HO5.out.row))
              have HO8 := Lib.hid hpush
              have HLPn := Lib.hid (show (L ++ [(⟨kx, .slice (some ⟨gc, 0, none⟩) n1 cc, zerosC n1⟩ : Rw)]).getD (p + 1) Rw.zero = ⟨kx, .slice (some ⟨gc, 0, none⟩) n1 cc, zerosC n1⟩ by rw [getD_push, HLL.out]; simp)
              have HPUT := Lib.hid (show ((L ++ [(⟨kx, .slice (some ⟨gc, 0, none⟩) n1 cc, zerosC n1⟩ : Rw)]).set (p + 1) (⟨kx, .slice (some ⟨gc, 0, none⟩) n1 cc, (zerosC n1).set ii ⟨n9, s9, a9, b9, g9, t9, d9, e9⟩⟩ : Rw)).map Rw.pr = wrowN gs n s a b l (k + 1) by rw [HN.out, ← HLL.out]; exact put_new rfl (.inr (by rw [HLL.out, Nat.add_sub_cancel, HLP.out]; have := HQ9.out; simpa using this)))
              have HTL := Lib.hid (show (L ++ [(⟨kx, .slice (some ⟨gc, 0, none⟩) n1 cc, zerosC n1⟩ : Rw)]).length = (p + 1) + 1 by rw [List.length_append, HLL.out]; rfl)
              obtain ⟨br9, offr9, eat, hct1, hct2, hcl8, hoc8, hcs8⟩ := HO8.out.last HTL.out HLPn.out
              subst eat
              have HLC8 := Lib.hid hcl8
              have HOC8 := Lib.hid hoc8
              have HCS8 := Lib.hid hcs8
              clear hcl8 hoc8 hcs8 hpush ho' hg' HOU HO5 HS5 HR5 HB5 HOT HST HRT HBT w0 w1 w2 w3
              obtain ⟨LT, hLT⟩ : ∃ z, (L ++ [(⟨kx, .slice (some ⟨gc, 0, none⟩) n1 cc, zerosC n1⟩ : Rw)]) = z := ⟨_, rfl⟩
              rw [hLT] at HO8 HLPn HPUT HTL
              clear hLT
              obtain ⟨CS, hCS⟩ : ∃ z, zerosC n1 = z := ⟨_, rfl⟩
              rw [hCS] at HLPn HPUT HOC8 HCS8
              clear hCS
              have HGC := Lib.hid (show w.heap.size ≤ gc by have := HBT2.out; omega)
              obtain ⟨M9, hM9⟩ : ∃ z, (p + 1) + 1 = z := ⟨_, rfl⟩
              rw [hM9] at HO8 hct1 ⊢
              have HM9 := Lib.hid (show (M9 : Int) - 1 = (((p + 1) : Nat) : Int) by omega)
              have hM8 : (((p + 1) : Nat) : Int) < (M9 : Int) := by omega
              have hM7 : (((p + 1) : Nat) : Int) < (ct' : Int) := by omega
              have HMM := Lib.hid hM9
              clear hM9
              have HGS := Lib.hid (show GSt 67 (fun i v _ => v = [.slice (some ⟨bg, og, none⟩) n1 cap, .pointer (some ⟨gw, 1, none⟩), .int .i64 (ii : Int), .pointer (some ⟨bg, og + ii * 2, none⟩), .pointer (some ⟨bg, og + ii * 2 + 1, none⟩), .int .i64 pk, .pointer (some ⟨B, 2, none⟩), .agg #[.int .i64 n, .int .i64 s], .pointer (some ⟨B, 4, none⟩), .agg #[.int .i64 a, .int .i64 b], .pointer (some ⟨gw, 2, none⟩), .bool gx, .pointer (some ⟨gw, 3, none⟩), .string (text vx), .tuple #[.agg #[.int .i64 n9, .int .i64 s9, .int .i64 a9, .int .i64 b9, .bool g9, .string (text t9), .int .i64 d9, .int .i64 e9], .int .i64 f9], .tuple #[.agg #[.int .i64 n9, .int .i64 s9, .int .i64 a9, .int .i64 b9, .bool g9, .string (text t9), .int .i64 d9, .int .i64 e9], .int .i64 f9], .agg #[.int .i64 n9, .int .i64 s9, .int .i64 a9, .int .i64 b9, .bool g9, .string (text t9), .int .i64 d9, .int .i64 e9], .int .i64 f9].getD i undef) from ⟨fun i v X Y h _ => h, fun i v X Y q cs ds _ _ h => h⟩)
              refine wp_region_inv [none, none, none, none, none, none, none, none, none, none, some 18, some 20, none, none, none, none, none, none, none, none, none, none, none, none, none, none, none, none, none, none, none, none, none, none, none, none, none, none, none, none, none, none, none, none, none, none, none, none, none, none, none, none, some 15, some 0, some 1, some 2, some 3, some 4, some 5, some 6, some 7, some 8, some 9, some 10, some 11, some 12, some 13, some 14, some 16, some 17, none, none, none, none, none, none, none, none, none, none, none, none] (fun i => [u53, u54, u55, u56, u57, u58, u59, u60, u61, u62, u63, u64, u65, u66, u67, u52, u68, u69, u10, undef, u11].getD i undef) (LayG 18 1 67 #[.int .i64 0, .int .i64 0, .int .i64 0, .int .i64 0, .bool false, .string ⟨#[]⟩, .int .i64 0, .int .i64 0] (fun i v _ => v = [.slice (some ⟨bg, og, none⟩) n1 cap, .pointer (some ⟨gw, 1, none⟩), .int .i64 (ii : Int), .pointer (some ⟨bg, og + ii * 2, none⟩), .pointer (some ⟨bg, og + ii * 2 + 1, none⟩), .int .i64 pk, .pointer (some ⟨B, 2, none⟩), .agg #[.int .i64 n, .int .i64 s], .pointer (some ⟨B, 4, none⟩), .agg #[.int .i64 a, .int .i64 b], .pointer (some ⟨gw, 2, none⟩), .bool gx, .pointer (some ⟨gw, 3, none⟩), .string (text vx), .tuple #[.agg #[.int .i64 n9, .int .i64 s9, .int .i64 a9, .int .i64 b9, .bool g9, .string (text t9), .int .i64 d9, .int .i64 e9], .int .i64 f9], .tuple #[.agg #[.int .i64 n9, .int .i64 s9, .int .i64 a9, .int .i64 b9, .bool g9, .string (text t9), .int .i64 d9, .int .i64 e9], .int .i64 f9], .agg #[.int .i64 n9, .int .i64 s9, .int .i64 a9, .int .i64 b9, .bool g9, .string (text t9), .int .i64 d9, .int .i64 e9], .int .i64 f9].getD i undef) (fun _ => 16) w') (by kernel_rfl) (by kernel_rfl) rfl rfl (fun LL hL => LayG.start fun i hi => hL i (Nat.lt_of_lt_of_le hi (by decide))) ?_ ?_
              · simp only [invOps, and_true]
                refine ⟨?_, ?_, ?_, ?_, ?_, ?_, ?_, ?_, ?_, ?_, ?_, ?_, ?_, ?_, ?_, ?_, ?_, ?_, ?_, ?_, ?_⟩
                · intro LL xs W hI hL hn
                  simp only [flowAct, List.zipWith_cons_cons, List.zipWith_nil_left]
                  go_wp2_with (fail)
                  exact ⟨rfl, _, rfl, hI.set HGS.out 0 (by decide) (Below.refl _ _) rfl⟩
                · intro LL xs W hI hL hn
                  simp only [flowAct, List.zipWith_cons_cons, List.zipWith_nil_left]
                  go_wp2_with (fail)
                  exact ⟨rfl, _, rfl, hI.set HGS.out 1 (by decide) (Below.refl _ _) rfl⟩
                · intro LL xs W hI hL hn
                  obtain ⟨w0, w1, w2, w3⟩ := wr_cells (heap_below HS8.out hI.below)
                  simp [invNeeds, Region.binds] at hn
                  have e1 : xs 1 = .pointer (some ⟨gw, 1, none⟩) := hI.2.1 1 (by decide) (by simp only [hn])
                  simp only [flowAct, List.zipWith_cons_cons, List.zipWith_nil_left]
                  simp only [e1]
                  go_wp2_with (fail)
                  exact ⟨rfl, _, rfl, hI.set HGS.out 2 (by decide) (Below.refl _ _) rfl⟩
                · intro LL xs W hI hL hn
                  simp [invNeeds, Region.binds] at hn
                  have e0 : xs 0 = .slice (some ⟨bg, og, none⟩) n1 cap := hI.2.1 0 (by decide) (by simp only [hn])
                  have e2 : xs 2 = .int .i64 (ii : Int) := hI.2.1 2 (by decide) (by simp only [hn])
                  simp only [flowAct, List.zipWith_cons_cons, List.zipWith_nil_left]
                  simp only [e0, e2]
                  go_wp2_with (fail)
                  exact ⟨rfl, _, rfl, hI.set HGS.out 3 (by decide) (Below.refl _ _) rfl⟩
                · intro LL xs W hI hL hn
                  simp [invNeeds, Region.binds] at hn
                  have e3 : xs 3 = .pointer (some ⟨bg, og + ii * 2, none⟩) := hI.2.1 3 (by decide) (by simp only [hn])
                  simp only [flowAct, List.zipWith_cons_cons, List.zipWith_nil_left]
                  simp only [e3]
                  go_wp2_with (fail)
                  exact ⟨rfl, _, rfl, hI.set HGS.out 4 (by decide) (Below.refl _ _) rfl⟩
                · intro LL xs W hI hL hn
                  obtain ⟨g0, g1⟩ := HGT.out W (HB8.out.trans (hI.below.mono HB8.out.size))
                  simp [invNeeds, Region.binds] at hn
                  have e4 : xs 4 = .pointer (some ⟨bg, og + ii * 2 + 1, none⟩) := hI.2.1 4 (by decide) (by simp only [hn])
                  simp only [flowAct, List.zipWith_cons_cons, List.zipWith_nil_left]
                  simp only [e4]
                  go_wp2_with (fail)
                  exact ⟨rfl, _, rfl, hI.set HGS.out 5 (by decide) (Below.refl _ _) rfl⟩
                · intro LL xs W hI hL hn
                  simp only [flowAct, List.zipWith_cons_cons, List.zipWith_nil_left]
                  go_wp2_with (fail)
                  exact ⟨rfl, _, rfl, hI.set HGS.out 6 (by decide) (Below.refl _ _) rfl⟩
                · intro LL xs W hI hL hn
                  obtain ⟨c0, c1, c2, c3, c4, c5, c6⟩ := ch_cells (heap_below HR8.out hI.below)
                  simp [invNeeds, Region.binds] at hn
                  have e6 : xs 6 = .pointer (some ⟨B, 2, none⟩) := hI.2.1 6 (by decide) (by simp only [hn])
                  simp only [flowAct, List.zipWith_cons_cons, List.zipWith_nil_left]
                  simp only [e6]
                  go_wp2_with (fail)
                  exact ⟨rfl, _, rfl, hI.set HGS.out 7 (by decide) (Below.refl _ _) rfl⟩
                · intro LL xs W hI hL hn
                  simp only [flowAct, List.zipWith_cons_cons, List.zipWith_nil_left]
                  go_wp2_with (fail)
                  exact ⟨rfl, _, rfl, hI.set HGS.out 8 (by decide) (Below.refl _ _) rfl⟩
                · intro LL xs W hI hL hn
                  obtain ⟨c0, c1, c2, c3, c4, c5, c6⟩ := ch_cells (heap_below HR8.out hI.below)
                  simp [invNeeds, Region.binds] at hn
                  have e8 : xs 8 = .pointer (some ⟨B, 4, none⟩) := hI.2.1 8 (by decide) (by simp only [hn])
                  simp only [flowAct, List.zipWith_cons_cons, List.zipWith_nil_left]
                  simp only [e8]
                  go_wp2_with (fail)
                  exact ⟨rfl, _, rfl, hI.set HGS.out 9 (by decide) (Below.refl _ _) rfl⟩
                · intro LL xs W hI hL hn
                  simp only [flowAct, List.zipWith_cons_cons, List.zipWith_nil_left]
                  go_wp2_with (fail)
                  exact ⟨rfl, _, rfl, hI.set HGS.out 10 (by decide) (Below.refl _ _) rfl⟩
                · intro LL xs W hI hL hn
                  obtain ⟨w0, w1, w2, w3⟩ := wr_cells (heap_below HS8.out hI.below)
                  simp [invNeeds, Region.binds] at hn
                  have e10 : xs 10 = .pointer (some ⟨gw, 2, none⟩) := hI.2.1 10 (by decide) (by simp only [hn])
                  simp only [flowAct, List.zipWith_cons_cons, List.zipWith_nil_left]
                  simp only [e10]
                  go_wp2_with (fail)
                  exact ⟨rfl, _, rfl, hI.set HGS.out 11 (by decide) (Below.refl _ _) rfl⟩
                · intro LL xs W hI hL hn
                  simp only [flowAct, List.zipWith_cons_cons, List.zipWith_nil_left]
                  go_wp2_with (fail)
                  exact ⟨rfl, _, rfl, hI.set HGS.out 12 (by decide) (Below.refl _ _) rfl⟩
                · intro LL xs W hI hL hn
                  obtain ⟨w0, w1, w2, w3⟩ := wr_cells (heap_below HS8.out hI.below)
                  simp [invNeeds, Region.binds] at hn
                  have e12 : xs 12 = .pointer (some ⟨gw, 3, none⟩) := hI.2.1 12 (by decide) (by simp only [hn])
                  simp only [flowAct, List.zipWith_cons_cons, List.zipWith_nil_left]
                  simp only [e12]
                  go_wp2_with (fail)
                  exact ⟨rfl, _, rfl, hI.set HGS.out 13 (by decide) (Below.refl _ _) rfl⟩
                · intro LL xs W hI hL hn
                  simp [invNeeds, Region.binds] at hn
                  have e5 : xs 5 = .int .i64 pk := hI.2.1 5 (by decide) (by simp only [hn])
                  have e7 : xs 7 = .agg #[.int .i64 n, .int .i64 s] := hI.2.1 7 (by decide) (by simp only [hn])
                  have e9 : xs 9 = .agg #[.int .i64 a, .int .i64 b] := hI.2.1 9 (by decide) (by simp only [hn])
                  have e11 : xs 11 = .bool gx := hI.2.1 11 (by decide) (by simp only [hn])
                  have e13 : xs 13 = .string (text vx) := hI.2.1 13 (by decide) (by simp only [hn])
                  simp only [flowAct, List.zipWith_cons_cons, List.zipWith_nil_left]
                  simp only [e5, e7, e9, e11, e13]
                  go_wp2_with (go_at_call 32; (with_reducible refine (HCO.out _).mono ?_); rintro e9 w9 ⟨rfl, hb9⟩)
                  exact ⟨rfl, _, rfl, hI.set HGS.out 14 (by decide) hb9 rfl⟩
                · intro LL xs W hI hL hn
                  simp [invNeeds, Region.binds] at hn
                  have e14 : xs 14 = .tuple #[.agg #[.int .i64 n9, .int .i64 s9, .int .i64 a9, .int .i64 b9, .bool g9, .string (text t9), .int .i64 d9, .int .i64 e9], .int .i64 f9] := hI.2.1 14 (by decide) (by simp only [hn])
                  simp only [flowAct, List.zipWith_cons_cons, List.zipWith_nil_left]
                  simp only [e14]
                  go_wp2_with (fail)
                  exact ⟨rfl, _, rfl, hI.set HGS.out 15 (by decide) (Below.refl _ _) rfl⟩
                · intro LL xs W hI hL hn
                  simp [invNeeds, Region.binds] at hn
                  have e15 : xs 15 = .tuple #[.agg #[.int .i64 n9, .int .i64 s9, .int .i64 a9, .int .i64 b9, .bool g9, .string (text t9), .int .i64 d9, .int .i64 e9], .int .i64 f9] := hI.2.1 15 (by decide) (by simp only [hn])
                  simp only [flowAct, List.zipWith_cons_cons, List.zipWith_nil_left]
                  simp only [e15]
                  go_wp2_with (fail)
                  exact ⟨rfl, _, rfl, hI.set HGS.out 16 (by decide) (Below.refl _ _) rfl⟩
                · intro LL xs W hI hL hn
                  simp [invNeeds, Region.binds] at hn
                  have e15 : xs 15 = .tuple #[.agg #[.int .i64 n9, .int .i64 s9, .int .i64 a9, .int .i64 b9, .bool g9, .string (text t9), .int .i64 d9, .int .i64 e9], .int .i64 f9] := hI.2.1 15 (by decide) (by simp only [hn])
                  simp only [flowAct, List.zipWith_cons_cons, List.zipWith_nil_left]
                  simp only [e15]
                  go_wp2_with (fail)
                  exact ⟨rfl, _, rfl, hI.set HGS.out 17 (by decide) (Below.refl _ _) rfl⟩
                · intro LL xs W hI hL hn
                  simp only [flowAct, List.zipWith_cons_cons, List.zipWith_nil_left]
                  go_wp2_with (fail)
                  exact ⟨rfl, _, rfl, hI.alloc HGS.out 0 (by decide) rfl hL⟩
                · intro LL xs W hI hL hn
                  simp [invNeeds, Region.binds] at hn
                  obtain ⟨hk, hv⟩ : LL 18 = true ∧ LL 16 = true := by simp only [hn, and_self]
                  obtain ⟨g5, cs5, eg, lg, hgc, hz5⟩ := hI.2.2.1 0 (by decide) hk
                  rw [if_neg (by rw [show LL (18 + 1 + 0) = false from hL]; decide)] at hz5
                  subst hz5
                  have e0 : xs 16 = .agg #[.int .i64 n9, .int .i64 s9, .int .i64 a9, .int .i64 b9, .bool g9, .string (text t9), .int .i64 d9, .int .i64 e9] := hI.2.1 16 (by decide) hv
                  have e1 : xs 18 = .pointer (some ⟨g5, 0, none⟩) := eg
                  have hc5 : Cel W g5 0 0 0 0 false [] 0 0 := hgc
                  obtain ⟨p0, p1, p2, p3, p4, p5, p6, p7⟩ := hc5.cs
                  have pfz := hc5.fz
                  simp only [flowAct, List.zipWith_cons_cons, List.zipWith_nil_left]
                  simp only [e0, e1]
                  go_wp2_with (fail)
                  exact ⟨rfl, undef, rfl, hI.store HGS.out 0 (by decide) rfl rfl hk eg rfl (Wrote.cell8 hc5 n9 s9 a9 b9 g9 t9 d9 e9) undef⟩
                · intro LL xs W hI hL hn
                  simp [invNeeds, Region.binds] at hn
                  have e17 : xs 17 = .int .i64 f9 := hI.2.1 17 (by decide) (by simp only [hn])
                  simp only [flowAct, List.zipWith_cons_cons, List.zipWith_nil_left]
                  simp only [e17]
                  go_wp2_with (fail)
                  exact ⟨rfl, _, rfl, hI.other 20 (by decide) _⟩
              · intro LL xs W hI hall
                obtain ⟨hW, -, hP, -, -⟩ := hI
                obtain ⟨gx9, cs7, e7, l7, h7, g7⟩ := hP 0 (by decide) (hall 18 (by decide))
                rw [if_pos (hall (18 + 1 + 0) (by decide))] at g7
                have g7 : Value.agg cs7 = .agg #[.int .i64 n9, .int .i64 s9, .int .i64 a9, .int .i64 b9, .bool g9, .string (text t9), .int .i64 d9, .int .i64 e9] := g7
                injection g7 with g7
                subst g7
                clear g7
                replace e7 : xs 18 = _ := e7
                clear hP hall
                simp only [flowAct, List.zipWith_cons_cons, List.zipWith_nil_left]
                simp only [e7]
                have hbk := HB8.out.trans (hW.mono HB8.out.size)
                have hrk := heap_below HR8.out hW
                have hsk := heap_below HS8.out hW
                have hok := HO8.out.kept hW
                have hoc := HOC8.out.kept hW
                have hlc := fun W' (h : Below W.heap.size W W') => HLC8.out W' (hW.trans (h.mono hW.size))
                have hce : Cel W gx9 n9 s9 a9 b9 g9 t9 d9 e9 := h7
                clear e7 h7 hW HGS HGT
                obtain ⟨WK, hWK⟩ : ∃ X, W = X := ⟨_, rfl⟩
                rw [hWK] at hbk hrk hsk hok hoc hlc hce ⊢
                clear hWK HB8 HR8 HS8 HO8 HOC8 HLC8
                have HB7 := Lib.hid hbk
                have HR7 := Lib.hid hrk
                have HS7 := Lib.hid hsk
                have HO7 := Lib.hid hok
                have HOC7 := Lib.hid hoc
                have HLC7 := Lib.hid hlc
                have HCE := Lib.hid hce
                clear hbk hrk hsk hok hoc hlc hce
                go_upto_region 12 with (fail)
                refine wp_region_flow_tail 10 [none, none, none, none, none, none, none, none, none, none, none, none, none, none, none, none, none, none, none, none, none, none, none, none, none, none, none, none, none, none, none, none, none, none, none, none, none, none, none, none, none, none, none, none, none, none, none, none, none, none, none, none, none, none, none, none, none, none, none, none, none, none, none, none, none, none, none, none, none, none, some 0, some 1, some 2, some 3, some 4, some 5, some 6, some 7, some 8, some 9, none, none] (fun i => [u70, u71, u72, u73, u74, u75, u76, u77, u78, u79].getD i undef) [(fun v _ => v = .slice (some ⟨br9, offr9, none⟩) M9 ct'), (fun v _ => v = .slice (some ⟨br9, offr9, none⟩) M9 ct'), (fun v _ => v = .int .i64 (M9 : Int)), (fun v _ => v = .int .i64 (((p + 1) : Nat) : Int)), (fun v _ => v = .pointer (some ⟨br9, offr9 + (p + 1) * 2, none⟩)), (fun v _ => v = .pointer (some ⟨br9, offr9 + (p + 1) * 2 + 1, none⟩)), (fun v _ => v = .slice (some ⟨gc, 0, none⟩) n1 cc), (fun v _ => v = .pointer (some ⟨gw, 1, none⟩)), (fun v _ => v = .int .i64 (ii : Int)), (fun v _ => v = .agg #[.int .i64 n9, .int .i64 s9, .int .i64 a9, .int .i64 b9, .bool g9, .string (text t9), .int .i64 d9, .int .i64 e9])] (fun _ => False) (by kernel_rfl) (by kernel_rfl) (by kernel_rfl) rfl rfl rfl ?_ ?_ ?_
                · intro g hg v X Y hX hY hv
                  simp only [List.mem_cons, List.not_mem_nil, or_false] at hg
                  rcases hg with rfl | rfl | rfl | rfl | rfl | rfl | rfl | rfl | rfl | rfl
                  all_goals first
                    | exact hv
                    | exact hv.kept hY
                · simp only [flowOpsF, List.take_succ_cons, List.take_zero, and_true]
                  refine ⟨?_, ?_, ?_, ?_, ?_, ?_, ?_, ?_, ?_, ?_⟩
                  · intro xs W hW hn
                    simp only [flowAct, List.zipWith_cons_cons, List.zipWith_nil_left]
                    go_wp2_with (fail)
                    exact ⟨rfl, _, rfl, Below.refl _ _, rfl, fun h => h.elim⟩
                  · intro xs W hW hn
                    simp only [flowAct, List.zipWith_cons_cons, List.zipWith_nil_left]
                    go_wp2_with (fail)
                    exact ⟨rfl, _, rfl, Below.refl _ _, rfl, fun h => h.elim⟩
                  · intro xs W hW hn
                    simp [flowNeeds, Region.binds] at hn
                    simp only [flowAct, List.zipWith_cons_cons, List.zipWith_nil_left]
                    try simp only [hn]
                    go_wp2_with (fail)
                    exact ⟨rfl, _, rfl, Below.refl _ _, rfl, fun h => h.elim⟩
                  · intro xs W hW hn
                    have hm9 := HM9.out
                    simp [flowNeeds, Region.binds] at hn
                    simp only [flowAct, List.zipWith_cons_cons, List.zipWith_nil_left]
                    simp only [hn]
                    go_wp2_with (fail)
                    exact ⟨rfl, _, rfl, Below.refl _ _, by first | rfl | go_num, fun h => h.elim⟩
                  · intro xs W hW hn
                    simp [flowNeeds, Region.binds] at hn
                    simp only [flowAct, List.zipWith_cons_cons, List.zipWith_nil_left]
                    try simp only [hn]
                    go_wp2_with (fail)
                    exact ⟨rfl, _, rfl, Below.refl _ _, rfl, fun h => h.elim⟩
                  · intro xs W hW hn
                    simp [flowNeeds, Region.binds] at hn
                    simp only [flowAct, List.zipWith_cons_cons, List.zipWith_nil_left]
                    try simp only [hn]
                    go_wp2_with (fail)
                    exact ⟨rfl, _, rfl, Below.refl _ _, rfl, fun h => h.elim⟩
                  · intro xs W hW hn
                    obtain ⟨r0, r1⟩ := HLC7.out W hW
                    simp [flowNeeds, Region.binds] at hn
                    simp only [flowAct, List.zipWith_cons_cons, List.zipWith_nil_left]
                    try simp only [hn]
                    go_wp2_with (fail)
                    exact ⟨rfl, _, rfl, Below.refl _ _, rfl, fun h => h.elim⟩
                  · intro xs W hW hn
                    simp only [flowAct, List.zipWith_cons_cons, List.zipWith_nil_left]
                    go_wp2_with (fail)
                    exact ⟨rfl, _, rfl, Below.refl _ _, rfl, fun h => h.elim⟩
                  · intro xs W hW hn
                    obtain ⟨w0, w1, w2, w3⟩ := wr_cells (heap_below HS7.out hW)
                    simp [flowNeeds, Region.binds] at hn
                    simp only [flowAct, List.zipWith_cons_cons, List.zipWith_nil_left]
                    try simp only [hn]
                    go_wp2_with (fail)
                    exact ⟨rfl, _, rfl, Below.refl _ _, rfl, fun h => h.elim⟩
                  · intro xs W hW hn
                    obtain ⟨p0, p1, p2, p3, p4, p5, p6, p7⟩ := (HCE.out.kept hW).cs
                    simp only [flowAct, List.zipWith_cons_cons, List.zipWith_nil_left]
                    go_wp2_with (fail)
                    exact ⟨rfl, _, rfl, Below.refl _ _, rfl, fun h => h.elim⟩
                · intro xs W hW hall hfr
                  clear hfr
                  simp only [flowAll, and_true, Nat.zero_add, Nat.reduceAdd] at hall
                  obtain ⟨-, -, -, -, -, -, y6, -, y8, y9⟩ := hall
                  simp only [flowAct, List.zipWith_cons_cons, List.zipWith_nil_left, List.drop_succ_cons, List.drop_zero]
                  simp only [y6, y8, y9]
                  have HBx := Lib.hid (HB7.out.trans (hW.mono HB7.out.size))
                  have HRx := Lib.hid (heap_below HR7.out hW)
                  have HOx := Lib.hid (HO7.out.kept hW)
                  have HOCx := Lib.hid (HOC7.out.kept hW)
                  have hlk : ii < CS.length := by have := HCS8.out; omega
                  have HLK := Lib.hid hlk
                  have pfz := own_fz HOCx.out
                  obtain ⟨p0, p1, p2, p3, p4, p5, p6, p7⟩ := own_at HOCx.out hlk _ (Below.refl _ _)
                  clear y6 y8 y9 hW hlk
                  go_wp2
                  go_roundw
                  case rel => exact ⟨k + 1, _, LT.set (p + 1) ⟨kx, .slice (some ⟨gc, 0, none⟩) n1 cc, CS.set ii ⟨n9, s9, a9, b9, g9, t9, d9, e9⟩⟩, by omega, by go_num, rfl, (by have hst := OwnRw.store HOx.out (j := (p + 1)) (by rw [HTL.out]; omega) (by rw [HLPn.out]; exact put_only (k := ii) n9 s9 a9 b9 g9 t9 d9 e9) (by rw [HLPn.out]; exact own_put HOCx.out HLK.out n9 s9 a9 b9 g9 t9 d9 e9) (by rw [List.length_set]; exact HCS8.out) hn0; rw [HLPn.out] at hst; exact hst), HPUT.out, cells_put_below (k := ii) HBx.out HGC.out n9 s9 a9 b9 g9 t9 d9 e9, ((put_only (g := gc) (m := n1) (c := cc) (k := ii) n9 s9 a9 b9 g9 t9 d9 e9).rest B (own_ne HRx.out (by decide) HOCx.out)).trans HRx.out⟩
                  case measure => simp [intOf]; omega
            | true =>
              obtain rfl : kx = kl := by have := HQ9.out; exact (by simpa using this : kl = kx).symm
              have HGC := Lib.hid hgcB
              have HPUT := Lib.hid (show (L.set p (⟨kx, .slice (some ⟨gc, 0, none⟩) n1 cc, csl.set ii ⟨n9, s9, a9, b9, g9, t9, d9, e9⟩⟩ : Rw)).map Rw.pr = wrowN gs n s a b l (k + 1) by
                have h := put_old (n1 := n1) (L := L) (R := L.map Rw.pr) (k := kx) (i := ii) (x := ⟨n9, s9, a9, b9, g9, t9, d9, e9⟩) rfl HLL.out (by rw [HLP.out])
                rw [HLP.out] at h
                rw [HN.out]; exact h)
              obtain ⟨LT, hLT⟩ : ∃ z, L = z := ⟨_, rfl⟩
              rw [hLT] at HLL HOT HLP HPUT
              have HTL := Lib.hid HLL.out
              have HB8 := Lib.hid HBT.out
              have HR8 := Lib.hid HRT.out
              have HS8 := Lib.hid HST.out
              have HO8 := Lib.hid HOT.out
              have HOC8 := Lib.hid HOCT.out
              have HLC8 := Lib.hid HLCT.out
              have HCS8 := Lib.hid HCS.out
              obtain ⟨CS, hCS⟩ : ∃ z, csl = z := ⟨_, rfl⟩
              rw [hCS] at HLP HPUT HOC8 HCS8
              clear hCS hLT HBT HRT HST HOT HOCT HLCT HOC HLC HCS
              go_upto_region 11 with (fail)
              obtain ⟨M9, hM9⟩ : ∃ z, p + 1 = z := ⟨_, rfl⟩
              rw [hM9] at HO8 hct1 ⊢
              have HM9 := Lib.hid (show (M9 : Int) - 1 = ((p : Nat) : Int) by omega)
              have hM8 : ((p : Nat) : Int) < (M9 : Int) := by omega
              have hM7 : ((p : Nat) : Int) < (cl : Int) := by omega
              have HMM := Lib.hid hM9
              clear hM9
              have HGS := Lib.hid (show GSt 67 (fun i v _ => v = [.slice (some ⟨bg, og, none⟩) n1 cap, .pointer (some ⟨gw, 1, none⟩), .int .i64 (ii : Int), .pointer (some ⟨bg, og + ii * 2, none⟩), .pointer (some ⟨bg, og + ii * 2 + 1, none⟩), .int .i64 pk, .pointer (some ⟨B, 2, none⟩), .agg #[.int .i64 n, .int .i64 s], .pointer (some ⟨B, 4, none⟩), .agg #[.int .i64 a, .int .i64 b], .pointer (some ⟨gw, 2, none⟩), .bool gx, .pointer (some ⟨gw, 3, none⟩), .string (text vx), .tuple #[.agg #[.int .i64 n9, .int .i64 s9, .int .i64 a9, .int .i64 b9, .bool g9, .string (text t9), .int .i64 d9, .int .i64 e9], .int .i64 f9], .tuple #[.agg #[.int .i64 n9, .int .i64 s9, .int .i64 a9, .int .i64 b9, .bool g9, .string (text t9), .int .i64 d9, .int .i64 e9], .int .i64 f9], .agg #[.int .i64 n9, .int .i64 s9, .int .i64 a9, .int .i64 b9, .bool g9, .string (text t9), .int .i64 d9, .int .i64 e9], .int .i64 f9].getD i undef) from ⟨fun i v X Y h _ => h, fun i v X Y q cs ds _ _ h => h⟩)
              refine wp_region_inv [none, none, none, none, none, none, none, none, none, none, some 18, some 20, none, none, none, none, none, none, none, none, none, none, none, none, none, none, none, none, none, none, none, none, none, none, none, none, none, none, none, none, none, none, none, none, none, none, none, none, none, none, none, none, some 15, some 0, some 1, some 2, some 3, some 4, some 5, some 6, some 7, some 8, some 9, some 10, some 11, some 12, some 13, some 14, some 16, some 17, none, none, none, none, none, none, none, none, none, none, none, none] (fun i => [u53, u54, u55, u56, u57, u58, u59, u60, u61, u62, u63, u64, u65, u66, u67, u52, u68, u69, u10, undef, u11].getD i undef) (LayG 18 1 67 #[.int .i64 0, .int .i64 0, .int .i64 0, .int .i64 0, .bool false, .string ⟨#[]⟩, .int .i64 0, .int .i64 0] (fun i v _ => v = [.slice (some ⟨bg, og, none⟩) n1 cap, .pointer (some ⟨gw, 1, none⟩), .int .i64 (ii : Int), .pointer (some ⟨bg, og + ii * 2, none⟩), .pointer (some ⟨bg, og + ii * 2 + 1, none⟩), .int .i64 pk, .pointer (some ⟨B, 2, none⟩), .agg #[.int .i64 n, .int .i64 s], .pointer (some ⟨B, 4, none⟩), .agg #[.int .i64 a, .int .i64 b], .pointer (some ⟨gw, 2, none⟩), .bool gx, .pointer (some ⟨gw, 3, none⟩), .string (text vx), .tuple #[.agg #[.int .i64 n9, .int .i64 s9, .int .i64 a9, .int .i64 b9, .bool g9, .string (text t9), .int .i64 d9, .int .i64 e9], .int .i64 f9], .tuple #[.agg #[.int .i64 n9, .int .i64 s9, .int .i64 a9, .int .i64 b9, .bool g9, .string (text t9), .int .i64 d9, .int .i64 e9], .int .i64 f9], .agg #[.int .i64 n9, .int .i64 s9, .int .i64 a9, .int .i64 b9, .bool g9, .string (text t9), .int .i64 d9, .int .i64 e9], .int .i64 f9].getD i undef) (fun _ => 16) WK) (by kernel_rfl) (by kernel_rfl) rfl rfl (fun LL hL => LayG.start fun i hi => hL i (Nat.lt_of_lt_of_le hi (by decide))) ?_ ?_
              · simp only [invOps, and_true]
                refine ⟨?_, ?_, ?_, ?_, ?_, ?_, ?_, ?_, ?_, ?_, ?_, ?_, ?_, ?_, ?_, ?_, ?_, ?_, ?_, ?_, ?_⟩
                · intro LL xs W hI hL hn
                  simp only [flowAct, List.zipWith_cons_cons, List.zipWith_nil_left]
                  go_wp2_with (fail)
                  exact ⟨rfl, _, rfl, hI.set HGS.out 0 (by decide) (Below.refl _ _) rfl⟩
                · intro LL xs W hI hL hn
                  simp only [flowAct, List.zipWith_cons_cons, List.zipWith_nil_left]
                  go_wp2_with (fail)
                  exact ⟨rfl, _, rfl, hI.set HGS.out 1 (by decide) (Below.refl _ _) rfl⟩
                · intro LL xs W hI hL hn
                  obtain ⟨w0, w1, w2, w3⟩ := wr_cells (heap_below HS8.out hI.below)
                  simp [invNeeds, Region.binds] at hn
                  have e1 : xs 1 = .pointer (some ⟨gw, 1, none⟩) := hI.2.1 1 (by decide) (by simp only [hn])
                  simp only [flowAct, List.zipWith_cons_cons, List.zipWith_nil_left]
                  simp only [e1]
                  go_wp2_with (fail)
                  exact ⟨rfl, _, rfl, hI.set HGS.out 2 (by decide) (Below.refl _ _) rfl⟩
                · intro LL xs W hI hL hn
                  simp [invNeeds, Region.binds] at hn
                  have e0 : xs 0 = .slice (some ⟨bg, og, none⟩) n1 cap := hI.2.1 0 (by decide) (by simp only [hn])
                  have e2 : xs 2 = .int .i64 (ii : Int) := hI.2.1 2 (by decide) (by simp only [hn])
                  simp only [flowAct, List.zipWith_cons_cons, List.zipWith_nil_left]
                  simp only [e0, e2]
                  go_wp2_with (fail)
                  exact ⟨rfl, _, rfl, hI.set HGS.out 3 (by decide) (Below.refl _ _) rfl⟩
                · intro LL xs W hI hL hn
                  simp [invNeeds, Region.binds] at hn
                  have e3 : xs 3 = .pointer (some ⟨bg, og + ii * 2, none⟩) := hI.2.1 3 (by decide) (by simp only [hn])
                  simp only [flowAct, List.zipWith_cons_cons, List.zipWith_nil_left]
                  simp only [e3]
                  go_wp2_with (fail)
                  exact ⟨rfl, _, rfl, hI.set HGS.out 4 (by decide) (Below.refl _ _) rfl⟩
                · intro LL xs W hI hL hn
                  obtain ⟨g0, g1⟩ := HGT.out W (HB8.out.trans (hI.below.mono HB8.out.size))
                  simp [invNeeds, Region.binds] at hn
                  have e4 : xs 4 = .pointer (some ⟨bg, og + ii * 2 + 1, none⟩) := hI.2.1 4 (by decide) (by simp only [hn])
                  simp only [flowAct, List.zipWith_cons_cons, List.zipWith_nil_left]
                  simp only [e4]
                  go_wp2_with (fail)
                  exact ⟨rfl, _, rfl, hI.set HGS.out 5 (by decide) (Below.refl _ _) rfl⟩
                · intro LL xs W hI hL hn
                  simp only [flowAct, List.zipWith_cons_cons, List.zipWith_nil_left]
                  go_wp2_with (fail)
                  exact ⟨rfl, _, rfl, hI.set HGS.out 6 (by decide) (Below.refl _ _) rfl⟩
                · intro LL xs W hI hL hn
                  obtain ⟨c0, c1, c2, c3, c4, c5, c6⟩ := ch_cells (heap_below HR8.out hI.below)
                  simp [invNeeds, Region.binds] at hn
                  have e6 : xs 6 = .pointer (some ⟨B, 2, none⟩) := hI.2.1 6 (by decide) (by simp only [hn])
                  simp only [flowAct, List.zipWith_cons_cons, List.zipWith_nil_left]
                  simp only [e6]
                  go_wp2_with (fail)
                  exact ⟨rfl, _, rfl, hI.set HGS.out 7 (by decide) (Below.refl _ _) rfl⟩
                · intro LL xs W hI hL hn
                  simp only [flowAct, List.zipWith_cons_cons, List.zipWith_nil_left]
                  go_wp2_with (fail)
                  exact ⟨rfl, _, rfl, hI.set HGS.out 8 (by decide) (Below.refl _ _) rfl⟩
                · intro LL xs W hI hL hn
                  obtain ⟨c0, c1, c2, c3, c4, c5, c6⟩ := ch_cells (heap_below HR8.out hI.below)
                  simp [invNeeds, Region.binds] at hn
                  have e8 : xs 8 = .pointer (some ⟨B, 4, none⟩) := hI.2.1 8 (by decide) (by simp only [hn])
                  simp only [flowAct, List.zipWith_cons_cons, List.zipWith_nil_left]
                  simp only [e8]
                  go_wp2_with (fail)
                  exact ⟨rfl, _, rfl, hI.set HGS.out 9 (by decide) (Below.refl _ _) rfl⟩
                · intro LL xs W hI hL hn
                  simp only [flowAct, List.zipWith_cons_cons, List.zipWith_nil_left]
                  go_wp2_with (fail)
                  exact ⟨rfl, _, rfl, hI.set HGS.out 10 (by decide) (Below.refl _ _) rfl⟩
                · intro LL xs W hI hL hn
                  obtain ⟨w0, w1, w2, w3⟩ := wr_cells (heap_below HS8.out hI.below)
                  simp [invNeeds, Region.binds] at hn
                  have e10 : xs 10 = .pointer (some ⟨gw, 2, none⟩) := hI.2.1 10 (by decide) (by simp only [hn])
                  simp only [flowAct, List.zipWith_cons_cons, List.zipWith_nil_left]
                  simp only [e10]
                  go_wp2_with (fail)
                  exact ⟨rfl, _, rfl, hI.set HGS.out 11 (by decide) (Below.refl _ _) rfl⟩
                · intro LL xs W hI hL hn
                  simp only [flowAct, List.zipWith_cons_cons, List.zipWith_nil_left]
                  go_wp2_with (fail)
                  exact ⟨rfl, _, rfl, hI.set HGS.out 12 (by decide) (Below.refl _ _) rfl⟩
                · intro LL xs W hI hL hn
                  obtain ⟨w0, w1, w2, w3⟩ := wr_cells (heap_below HS8.out hI.below)
                  simp [invNeeds, Region.binds] at hn
                  have e12 : xs 12 = .pointer (some ⟨gw, 3, none⟩) := hI.2.1 12 (by decide) (by simp only [hn])
                  simp only [flowAct, List.zipWith_cons_cons, List.zipWith_nil_left]
                  simp only [e12]
                  go_wp2_with (fail)
                  exact ⟨rfl, _, rfl, hI.set HGS.out 13 (by decide) (Below.refl _ _) rfl⟩
                · intro LL xs W hI hL hn
                  simp [invNeeds, Region.binds] at hn
                  have e5 : xs 5 = .int .i64 pk := hI.2.1 5 (by decide) (by simp only [hn])
                  have e7 : xs 7 = .agg #[.int .i64 n, .int .i64 s] := hI.2.1 7 (by decide) (by simp only [hn])
                  have e9 : xs 9 = .agg #[.int .i64 a, .int .i64 b] := hI.2.1 9 (by decide) (by simp only [hn])
                  have e11 : xs 11 = .bool gx := hI.2.1 11 (by decide) (by simp only [hn])
                  have e13 : xs 13 = .string (text vx) := hI.2.1 13 (by decide) (by simp only [hn])
                  simp only [flowAct, List.zipWith_cons_cons, List.zipWith_nil_left]
                  simp only [e5, e7, e9, e11, e13]
                  go_wp2_with (go_at_call 32; (with_reducible refine (HCO.out _).mono ?_); rintro e9 w9 ⟨rfl, hb9⟩)
                  exact ⟨rfl, _, rfl, hI.set HGS.out 14 (by decide) hb9 rfl⟩
                · intro LL xs W hI hL hn
                  simp [invNeeds, Region.binds] at hn
                  have e14 : xs 14 = .tuple #[.agg #[.int .i64 n9, .int .i64 s9, .int .i64 a9, .int .i64 b9, .bool g9, .string (text t9), .int .i64 d9, .int .i64 e9], .int .i64 f9] := hI.2.1 14 (by decide) (by simp only [hn])
                  simp only [flowAct, List.zipWith_cons_cons, List.zipWith_nil_left]
                  simp only [e14]
                  go_wp2_with (fail)
                  exact ⟨rfl, _, rfl, hI.set HGS.out 15 (by decide) (Below.refl _ _) rfl⟩
                · intro LL xs W hI hL hn
                  simp [invNeeds, Region.binds] at hn
                  have e15 : xs 15 = .tuple #[.agg #[.int .i64 n9, .int .i64 s9, .int .i64 a9, .int .i64 b9, .bool g9, .string (text t9), .int .i64 d9, .int .i64 e9], .int .i64 f9] := hI.2.1 15 (by decide) (by simp only [hn])
                  simp only [flowAct, List.zipWith_cons_cons, List.zipWith_nil_left]
                  simp only [e15]
                  go_wp2_with (fail)
                  exact ⟨rfl, _, rfl, hI.set HGS.out 16 (by decide) (Below.refl _ _) rfl⟩
                · intro LL xs W hI hL hn
                  simp [invNeeds, Region.binds] at hn
                  have e15 : xs 15 = .tuple #[.agg #[.int .i64 n9, .int .i64 s9, .int .i64 a9, .int .i64 b9, .bool g9, .string (text t9), .int .i64 d9, .int .i64 e9], .int .i64 f9] := hI.2.1 15 (by decide) (by simp only [hn])
                  simp only [flowAct, List.zipWith_cons_cons, List.zipWith_nil_left]
                  simp only [e15]
                  go_wp2_with (fail)
                  exact ⟨rfl, _, rfl, hI.set HGS.out 17 (by decide) (Below.refl _ _) rfl⟩
                · intro LL xs W hI hL hn
                  simp only [flowAct, List.zipWith_cons_cons, List.zipWith_nil_left]
                  go_wp2_with (fail)
                  exact ⟨rfl, _, rfl, hI.alloc HGS.out 0 (by decide) rfl hL⟩
                · intro LL xs W hI hL hn
                  simp [invNeeds, Region.binds] at hn
                  obtain ⟨hk, hv⟩ : LL 18 = true ∧ LL 16 = true := by simp only [hn, and_self]
                  obtain ⟨g5, cs5, eg, lg, hgc, hz5⟩ := hI.2.2.1 0 (by decide) hk
                  rw [if_neg (by rw [show LL (18 + 1 + 0) = false from hL]; decide)] at hz5
                  subst hz5
                  have e0 : xs 16 = .agg #[.int .i64 n9, .int .i64 s9, .int .i64 a9, .int .i64 b9, .bool g9, .string (text t9), .int .i64 d9, .int .i64 e9] := hI.2.1 16 (by decide) hv
                  have e1 : xs 18 = .pointer (some ⟨g5, 0, none⟩) := eg
                  have hc5 : Cel W g5 0 0 0 0 false [] 0 0 := hgc
                  obtain ⟨p0, p1, p2, p3, p4, p5, p6, p7⟩ := hc5.cs
                  have pfz := hc5.fz
                  simp only [flowAct, List.zipWith_cons_cons, List.zipWith_nil_left]
                  simp only [e0, e1]
                  go_wp2_with (fail)
                  exact ⟨rfl, undef, rfl, hI.store HGS.out 0 (by decide) rfl rfl hk eg rfl (Wrote.cell8 hc5 n9 s9 a9 b9 g9 t9 d9 e9) undef⟩
                · intro LL xs W hI hL hn
                  simp [invNeeds, Region.binds] at hn
                  have e17 : xs 17 = .int .i64 f9 := hI.2.1 17 (by decide) (by simp only [hn])
                  simp only [flowAct, List.zipWith_cons_cons, List.zipWith_nil_left]
                  simp only [e17]
                  go_wp2_with (fail)
                  exact ⟨rfl, _, rfl, hI.other 20 (by decide) _⟩
              · intro LL xs W hI hall
                obtain ⟨hW, -, hP, -, -⟩ := hI
                obtain ⟨gx9, cs7, e7, l7, h7, g7⟩ := hP 0 (by decide) (hall 18 (by decide))
                rw [if_pos (hall (18 + 1 + 0) (by decide))] at g7
                have g7 : Value.agg cs7 = .agg #[.int .i64 n9, .int .i64 s9, .int .i64 a9, .int .i64 b9, .bool g9, .string (text t9), .int .i64 d9, .int .i64 e9] := g7
                injection g7 with g7
                subst g7
                clear g7
                replace e7 : xs 18 = _ := e7
                clear hP hall
                simp only [flowAct, List.zipWith_cons_cons, List.zipWith_nil_left]
                simp only [e7]
                have hbk := HB8.out.trans (hW.mono HB8.out.size)
                have hrk := heap_below HR8.out hW
                have hsk := heap_below HS8.out hW
                have hok := HO8.out.kept hW
                have hoc := HOC8.out.kept hW
                have hlc := fun W' (h : Below W.heap.size W W') => HLC8.out W' (hW.trans (h.mono hW.size))
                have hce : Cel W gx9 n9 s9 a9 b9 g9 t9 d9 e9 := h7
                clear e7 h7 hW HGS HGT
                obtain ⟨WK, hWK⟩ : ∃ X, W = X := ⟨_, rfl⟩
                rw [hWK] at hbk hrk hsk hok hoc hlc hce ⊢
                clear hWK HB8 HR8 HS8 HO8 HOC8 HLC8
                have HB7 := Lib.hid hbk
                have HR7 := Lib.hid hrk
                have HS7 := Lib.hid hsk
                have HO7 := Lib.hid hok
                have HOC7 := Lib.hid hoc
                have HLC7 := Lib.hid hlc
                have HCE := Lib.hid hce
                clear hbk hrk hsk hok hoc hlc hce
                go_upto_region 12 with (fail)
                refine wp_region_flow_tail 10 [none, none, none, none, none, none, none, none, none, none, none, none, none, none, none, none, none, none, none, none, none, none, none, none, none, none, none, none, none, none, none, none, none, none, none, none, none, none, none, none, none, none, none, none, none, none, none, none, none, none, none, none, none, none, none, none, none, none, none, none, none, none, none, none, none, none, none, none, none, none, some 0, some 1, some 2, some 3, some 4, some 5, some 6, some 7, some 8, some 9, none, none] (fun i => [u70, u71, u72, u73, u74, u75, u76, u77, u78, u79].getD i undef) [(fun v _ => v = .slice (some ⟨br, offr, none⟩) M9 cl), (fun v _ => v = .slice (some ⟨br, offr, none⟩) M9 cl), (fun v _ => v = .int .i64 (M9 : Int)), (fun v _ => v = .int .i64 ((p : Nat) : Int)), (fun v _ => v = .pointer (some ⟨br, offr + p * 2, none⟩)), (fun v _ => v = .pointer (some ⟨br, offr + p * 2 + 1, none⟩)), (fun v _ => v = .slice (some ⟨gc, 0, none⟩) n1 cc), (fun v _ => v = .pointer (some ⟨gw, 1, none⟩)), (fun v _ => v = .int .i64 (ii : Int)), (fun v _ => v = .agg #[.int .i64 n9, .int .i64 s9, .int .i64 a9, .int .i64 b9, .bool g9, .string (text t9), .int .i64 d9, .int .i64 e9])] (fun _ => False) (by kernel_rfl) (by kernel_rfl) (by kernel_rfl) rfl rfl rfl ?_ ?_ ?_
                · intro g hg v X Y hX hY hv
                  simp only [List.mem_cons, List.not_mem_nil, or_false] at hg
                  rcases hg with rfl | rfl | rfl | rfl | rfl | rfl | rfl | rfl | rfl | rfl
                  all_goals first
                    | exact hv
                    | exact hv.kept hY
                · simp only [flowOpsF, List.take_succ_cons, List.take_zero, and_true]
                  refine ⟨?_, ?_, ?_, ?_, ?_, ?_, ?_, ?_, ?_, ?_⟩
                  · intro xs W hW hn
                    simp only [flowAct, List.zipWith_cons_cons, List.zipWith_nil_left]
                    go_wp2_with (fail)
                    exact ⟨rfl, _, rfl, Below.refl _ _, rfl, fun h => h.elim⟩
                  · intro xs W hW hn
                    simp only [flowAct, List.zipWith_cons_cons, List.zipWith_nil_left]
                    go_wp2_with (fail)
                    exact ⟨rfl, _, rfl, Below.refl _ _, rfl, fun h => h.elim⟩
                  · intro xs W hW hn
                    simp [flowNeeds, Region.binds] at hn
                    simp only [flowAct, List.zipWith_cons_cons, List.zipWith_nil_left]
                    try simp only [hn]
                    go_wp2_with (fail)
                    exact ⟨rfl, _, rfl, Below.refl _ _, rfl, fun h => h.elim⟩
                  · intro xs W hW hn
                    have hm9 := HM9.out
                    simp [flowNeeds, Region.binds] at hn
                    simp only [flowAct, List.zipWith_cons_cons, List.zipWith_nil_left]
                    simp only [hn]
                    go_wp2_with (fail)
                    exact ⟨rfl, _, rfl, Below.refl _ _, by first | rfl | go_num, fun h => h.elim⟩
                  · intro xs W hW hn
                    simp [flowNeeds, Region.binds] at hn
                    simp only [flowAct, List.zipWith_cons_cons, List.zipWith_nil_left]
                    try simp only [hn]
                    go_wp2_with (fail)
                    exact ⟨rfl, _, rfl, Below.refl _ _, rfl, fun h => h.elim⟩
                  · intro xs W hW hn
                    simp [flowNeeds, Region.binds] at hn
                    simp only [flowAct, List.zipWith_cons_cons, List.zipWith_nil_left]
                    try simp only [hn]
                    go_wp2_with (fail)
                    exact ⟨rfl, _, rfl, Below.refl _ _, rfl, fun h => h.elim⟩
                  · intro xs W hW hn
                    obtain ⟨r0, r1⟩ := HLC7.out W hW
                    simp [flowNeeds, Region.binds] at hn
                    simp only [flowAct, List.zipWith_cons_cons, List.zipWith_nil_left]
                    try simp only [hn]
                    go_wp2_with (fail)
                    exact ⟨rfl, _, rfl, Below.refl _ _, rfl, fun h => h.elim⟩
                  · intro xs W hW hn
                    simp only [flowAct, List.zipWith_cons_cons, List.zipWith_nil_left]
                    go_wp2_with (fail)
                    exact ⟨rfl, _, rfl, Below.refl _ _, rfl, fun h => h.elim⟩
                  · intro xs W hW hn
                    obtain ⟨w0, w1, w2, w3⟩ := wr_cells (heap_below HS7.out hW)
                    simp [flowNeeds, Region.binds] at hn
                    simp only [flowAct, List.zipWith_cons_cons, List.zipWith_nil_left]
                    try simp only [hn]
                    go_wp2_with (fail)
                    exact ⟨rfl, _, rfl, Below.refl _ _, rfl, fun h => h.elim⟩
                  · intro xs W hW hn
                    obtain ⟨p0, p1, p2, p3, p4, p5, p6, p7⟩ := (HCE.out.kept hW).cs
                    simp only [flowAct, List.zipWith_cons_cons, List.zipWith_nil_left]
                    go_wp2_with (fail)
                    exact ⟨rfl, _, rfl, Below.refl _ _, rfl, fun h => h.elim⟩
                · intro xs W hW hall hfr
                  clear hfr
                  simp only [flowAll, and_true, Nat.zero_add, Nat.reduceAdd] at hall
                  obtain ⟨-, -, -, -, -, -, y6, -, y8, y9⟩ := hall
                  simp only [flowAct, List.zipWith_cons_cons, List.zipWith_nil_left, List.drop_succ_cons, List.drop_zero]
                  simp only [y6, y8, y9]
                  have HBx := Lib.hid (HB7.out.trans (hW.mono HB7.out.size))
                  have HRx := Lib.hid (heap_below HR7.out hW)
                  have HOx := Lib.hid (HO7.out.kept hW)
                  have HOCx := Lib.hid (HOC7.out.kept hW)
                  have hlk : ii < CS.length := by have := HCS8.out; omega
                  have HLK := Lib.hid hlk
                  have pfz := own_fz HOCx.out
                  obtain ⟨p0, p1, p2, p3, p4, p5, p6, p7⟩ := own_at HOCx.out hlk _ (Below.refl _ _)
                  clear y6 y8 y9 hW hlk
                  go_wp2
                  go_roundw
                  case rel => exact ⟨k + 1, _, LT.set p ⟨kx, .slice (some ⟨gc, 0, none⟩) n1 cc, CS.set ii ⟨n9, s9, a9, b9, g9, t9, d9, e9⟩⟩, by omega, by go_num, rfl, (by have hst := OwnRw.store HOx.out (j := p) (by rw [HTL.out]; omega) (by rw [HLP.out]; exact put_only (k := ii) n9 s9 a9 b9 g9 t9 d9 e9) (by rw [HLP.out]; exact own_put HOCx.out HLK.out n9 s9 a9 b9 g9 t9 d9 e9) (by rw [List.length_set]; exact HCS8.out) hn0; rw [HLP.out] at hst; exact hst), HPUT.out, cells_put_below (k := ii) HBx.out HGC.out n9 s9 a9 b9 g9 t9 d9 e9, ((put_only (g := gc) (m := n1) (c := cc) (k := ii) n9 s9 a9 b9 g9 t9 d9 e9).rest B (own_ne HRx.out (by decide) HOCx.out)).trans HRx.out⟩
                  case measure => simp [intOf]; omega
            
      · obtain rfl : m = k := by omega
        go_wp2
        go_ret2
        exact ⟨_, L, by rw [HRR.out]; rfl, HO.out, by rw [HRR.out]; exact HPR.out, HBr.out⟩
  · have h0n : (R != 0) = true := by simpa using h0
    have HRR := Lib.hid (HQ.out h0)
    go_wp2_with (go_at_call 14; (with_reducible refine (HGD.out _ HB1.out).mono ?_); rintro e9 w2 ⟨rfl, hb2⟩)
    go_ret2
    exact ⟨.slice none 0 0, [], by rw [HRR.out]; rfl, OwnRw.nil _ _ _, by rw [HRR.out]; rfl, HB1.out.trans (hb2.mono HB1.out.size)⟩
end Go.Proofs.YtfkmfccdhmnllaaDoor
end

