/-
  Merged: H3 JO H1 Tb.
-/
import Derived.Deep.QuietTactic
import Derived.StillTail
import Derived.Lib.QuietBelow
import Derived.Test.YtfkmfccdhmnllaaDoorRows
import Derived.WalkKit
import Derived.Lib.Hide
import Derived.BigQuiet
import Derived.BigRegion
import Derived.Deep.Cut
import Derived.Deep.MidRow
import Derived.Great.BuildSlice
import Derived.Outline
import Derived.OwnWalk
import Derived.Laws.Rows
import Derived.ChangeKeysEq
import Derived.Laws.StructEq
import Derived.WalkSpells
import Derived.WalkLawsBesides
import Derived.Laws.CopyOwn
import Derived.WalkSmall
import Derived.Lib.LaidTab
import Derived.Deep.RegionWith
import Derived.Lib.MinMax
import Derived.WideShapes
import Derived.ChangeSame
import Derived.OpenShut
import Derived.Deep.Slices
import Derived.Deep.AppendSrc
import Derived.Lib.AppendZerosOnto
import Derived.Lib.SliceRun
import Derived.Lib.Walk
import Derived.Lib.OthersKept
import Derived.Laws.RangeAny
import Derived.Maps.OwnOps
import Derived.Maps.Views
import Derived.ChangeSlices
import Derived.ChangeArms
import Derived.Deep.DeepAppendWide
import Derived.OrdersIn
import Derived.TacticsIn
import Derived.RangeFuncNested
import Derived.RangeFuncBound
import Derived.RangeFuncCalls
import Derived.RangeFuncLeaves
import Derived.Maps.AppendAt
import Derived.Shelf.Abstract
import Derived.OwnWalkIn
import Derived.TacticsInMore
import Derived.LoopNIn
import Derived.LoopIn
import Derived.Stop.LaidErr
import Derived.Test.YtfkmfccdhmnllaaDoorSB4

section
namespace Go.Proofs.YtfkmfccdhmnllaaDoor
open Go.RowKit Go Go.Sort
set_option linter.unusedVariables false
set_option maxRecDepth 20000

theorem ChGetPost.cells2 {x1 x2 x3 x4 x5 x6 k er : Int} {ws : List Wr} {w w' : World} {e : Ending} (h : ChGetPost ((x1, x2, x3, x4, x5, x6, ws), k, er) w e w') :
    ∃ (a9 : Option Addr) (c9 : Nat), e = .returned (.tuple #[.agg #[.int .i64 x1, .int .i64 x2, .int .i64 x3, .int .i64 x4, .int .i64 x5, .int .i64 x6, .slice a9 ws.length c9], .int .i64 k, .int .i64 er]) ∧ Wrs w' a9 ws.length c9 ws ∧ WShort ws ∧ Below w.heap.size w w' := by
  obtain ⟨_, _, _, _, _, _, v, _, _, _, rfl, ho, hs, hb, he⟩ := h
  simp only [Prod.mk.injEq] at he
  obtain ⟨⟨rfl, rfl, rfl, rfl, rfl, rfl, rfl⟩, rfl, rfl⟩ := he
  obtain ⟨a9, c9, rfl, hw⟩ := OwnL.wrs ho
  exact ⟨a9, c9, rfl, hw, hs, hb⟩
theorem wputN_le {n : Nat} {ws : List Wr} (HE : List UInt8) : ∀ k, (∀ j, j < k → mayS n (ws.getD j Wr.zero) = true) → (wputN HE ws k).length ≤ HE.length + 128 * k
  | 0, _ => by show HE.length ≤ _; omega
  | k + 1, h => by
    have h1 := wputN_le HE k (fun j hj => h j (by omega))
    have h2 := wput_le (wputN HE ws k) (h k (by omega))
    show (wputS (wputN HE ws k) (ws.getD k Wr.zero)).length ≤ _
    omega
theorem chput_le {gs : List Grp} (site seq n s a b : Int) {ws : List Wr} (h : chgoodS gs site seq n s a b ws = 0) : (chputS [] gs site seq n s a b ws).length ≤ 1072 := by
  obtain ⟨h1, h2, h3⟩ := ch_inv h
  obtain ⟨-, -, -, -, -, -, -, h4, h5⟩ := head_ok h2
  have h6 := chead_le [] site seq n s a b ws.length
  have h7 := wputN_le (n := gs.length) (cheadB [] site seq n s a b ws.length) ws.length (fun j hj => w_at (h3 j hj))
  unfold chputS
  rw [if_pos h]
  simp at h6
  omega

set_option maxRecDepth 100000 in
set_option maxHeartbeats 12800000 in
theorem chback_walk {w : World} {x x2 ad : Option Addr} {n1 cap m cap2 m9 cap9 : Nat} {gs : List Grp} {ws : List Wr} {l : List UInt8} (hg : Grs w x n1 cap gs) (hs : ∀ g ∈ gs, g.1.length ≤ 9223372036854775807)
    (hl : Wrs w x2 m cap2 ws) (hx : WShort ws) (site seq n s a b : Int) (hy : Bys w ad m9 cap9 l) (hT : TabW w) :
    Calls Tryd.prog 7 #[.slice x n1 cap, .agg #[.int .i64 site, .int .i64 seq, .int .i64 n, .int .i64 s, .int .i64 a, .int .i64 b, .slice x2 m cap2], .slice ad m9 cap9] w (Tells (.bool true) w) := by
  obtain ⟨i0, hi, hz0, hz1, hz2⟩ := info_parts Tryd.info5
  have hll := hl.len
  have hyl := hy.len
  have hyle := hy.le
  have hymx := hy.max
  have hgle := hg.le
  have hgmx := hg.max
  have HLv := Lib.hid (fun W (h : Below w.heap.size w W) => chlives_c (hT.below h))
  have hLT := fun W (h : Below w.heap.size w W) => lightw_c (x := x) (n1 := n1) (cap := cap) (by omega) (hl.below h) hx
  have hG := fun W (h : Below w.heap.size w W) => chgood_c (hg.below h) hs (hl.below h) hx site seq n s a b
  have hGT := fun W (h : Below w.heap.size w W) => chget_c (hy.below h) (hg.below h) hs
  have hGG := fun (l2 : List UInt8) (W : World) (h : Below w.heap.size w W) (a : Option Addr) (n c : Nat) (hh : Bys W a n c l2) => chget_c hh (hg.below h) hs
  have hP0 := fun W (h : Below w.heap.size w W) => chput_c (w := W) (by9 := []) (ad := none) (m9 := 0) (cap9 := 0) ⟨rfl, Nat.le_refl _, by omega, .inl rfl⟩ (by omega) (hg.below h) hs (hl.below h) hx (hT.below h) site seq n s a b
  have hGB : chgoodS gs site seq n s a b ws = 0 → chgetS gs (chputS [] gs site seq n s a b ws ++ l) = ((site, seq, n, s, a, b, ws), ((chputS [] gs site seq n s a b ws).length : Int), 0) := fun h0 => chget_back h0 l
  have hPE : ¬ chgoodS gs site seq n s a b ws = 0 → (chputS [] gs site seq n s a b ws).length = 0 := fun h0 => by unfold chputS; rw [if_neg h0]; rfl
  have hPL : chgoodS gs site seq n s a b ws = 0 → (chputS [] gs site seq n s a b ws).length ≤ 1072 := fun h0 => chput_le site seq n s a b h0
  obtain ⟨L, hL⟩ : ∃ q, decide (lightW n1 ws m ≤ 5000) = q := ⟨_, rfl⟩
  simp only [hL] at hLT
  obtain ⟨R, hR⟩ : ∃ q, chgoodS gs site seq n s a b ws = q := ⟨_, rfl⟩
  simp only [hR] at hG hGB hPE hPL
  obtain ⟨PL, hPLe⟩ : ∃ q, chputS [] gs site seq n s a b ws = q := ⟨_, rfl⟩
  simp only [hPLe] at hP0 hGB hPE hPL
  obtain ⟨⟨⟨g1, g2, g3, g4, g5, g6, gws⟩, gn, gf⟩, hgv⟩ : ∃ q, chgetS gs l = q := ⟨_, rfl⟩
  simp only [hgv] at hGT
  have hGT := fun W (h : Below w.heap.size w W) => (hGT W h).mono fun _ _ h => h.cells2
  obtain ⟨gl, hgle2⟩ : ∃ q, gws.length = q := ⟨_, rfl⟩
  simp only [hgle2] at hGT
  have HCP := Lib.hid (fun (h : gf = 0) => chget_ok (by rw [hgv, h]))
  have HPP := Lib.hid (fun (W : World) (h : Below w.heap.size w W) (a9 : Option Addr) (c9 : Nat) (hl9 : Wrs W a9 gl c9 gws) (hsh : WShort gws) => chput_c (w := W) (by9 := []) (ad := none) (m9 := 0) (cap9 := 0) ⟨rfl, Nat.le_refl _, by omega, .inl rfl⟩ (by omega) (hg.below h) hs hl9 hsh (hT.below h) g1 g2 g3 g4 g5 g6)
  have hG3 := fun (h0 : R = 0) => by
    have h1 := hGG (PL ++ l)
    rw [hGB h0] at h1
    have h2 := fun W h a n c hh => (h1 W h a n c hh).mono fun _ _ h => h.cells2
    simp only [hll] at h2
    exact h2
  have HCV := Lib.hid (fun (W : World) (a3 : Option Addr) (c3 : Nat) (X3 : List UInt8) (n3 : Nat) (h3 : Bys W a3 n3 c3 X3) => conv_bys (P := Tryd.prog) h3 Tryd.underlying50 Tryd.underlying5 Tryd.underlying9)
  have HL := Lib.hid hl
  have HY := Lib.hid (fun W (h : Below w.heap.size w W) => hy.below h)
  have HLT := Lib.hid hLT
  have HG := Lib.hid hG
  have HGT := Lib.hid hGT
  have HP0 := Lib.hid hP0
  have HG3 := Lib.hid hG3
  have HPE := Lib.hid hPE
  have HPL := Lib.hid hPL
  have HYL := Lib.hid hyl
  have hB := alloc_below w (.cells #[.int .i64 site, .int .i64 seq, .int .i64 n, .int .i64 s, .int .i64 a, .int .i64 b, .slice x2 m cap2] 29)
  have hr := heap_alloc_new w (.cells #[.int .i64 site, .int .i64 seq, .int .i64 n, .int .i64 s, .int .i64 a, .int .i64 b, .slice x2 m cap2] 29)
  clear hLT hG hGT hGG hP0 hG3 hPE hPL hGB hL hR hPLe hgv hgle2 hg hs hl hx hy hT hgle hgmx
  go_enter Tryd.func7, Tryd.ntmps7
  go_upto_region 1 with (fail)
  obtain ⟨B, hBe⟩ : ∃ q, w.heap.size = q := ⟨_, rfl⟩
  have HBe := Lib.hid hBe
  rw [hBe] at hr
  try rw [hBe]
  clear hBe
  generalize w.alloc (.cells #[.int .i64 site, .int .i64 seq, .int .i64 n, .int .i64 s, .int .i64 a, .int .i64 b, .slice x2 m cap2] 29) = W1 at *
  have bR2 := Lib.hid (show ChBox W1 B site seq n s a b x2 m cap2 ws from ⟨hr, HL.out.below hB⟩)
  obtain ⟨r0, r1, r2, r3, r4, r5, r6⟩ := ch_cells bR2.out.row
  have HB2 := Lib.hid hB
  clear hB hr
  have HLC := Lib.hid (HLT.out _ HB2.out)
  clear HLT
  cases L with
  | false =>
    go_wp2_with (first
      | (go_at_call 9; (with_reducible refine HLC.out.mono ?_); rintro e9 w9 ⟨rfl, hb9⟩; have bR3 := Lib.hid (bR2.out.kept hb9); have HB3 := Lib.hid (HB2.out.trans (hb9.mono HB2.out.size)); clear hb9; obtain ⟨r0, r1, r2, r3, r4, r5, r6⟩ := ch_cells bR3.out.row)
      | (go_at_call 10; (with_reducible refine (HLv.out _ HB3.out).mono ?_); rintro e9 w8 ⟨rfl, hb9⟩; have HB4 := Lib.hid (HB3.out.trans (hb9.mono HB3.out.size)); clear hb9))
    go_ret
    exact ⟨rfl, HB4.out⟩
  | true =>
    by_cases h9 : 5000 < m9
    · have h9i : (5000 : Int) < (m9 : Int) := by omega
      go_wp2_with (first
        | (go_at_call 9; (with_reducible refine HLC.out.mono ?_); rintro e9 w9 ⟨rfl, hb9⟩; have bR3 := Lib.hid (bR2.out.kept hb9); have HB3 := Lib.hid (HB2.out.trans (hb9.mono HB2.out.size)); clear hb9; obtain ⟨r0, r1, r2, r3, r4, r5, r6⟩ := ch_cells bR3.out.row)
        | (go_at_call 10; (with_reducible refine (HLv.out _ HB3.out).mono ?_); rintro e9 w8 ⟨rfl, hb9⟩; have HB4 := Lib.hid (HB3.out.trans (hb9.mono HB3.out.size)); clear hb9))
      go_ret
      exact ⟨rfl, HB4.out⟩
    · have h9i : ¬ (5000 : Int) < (m9 : Int) := by omega
      go_upto_region 4 with (first
        | (go_at_call 9; (with_reducible refine HLC.out.mono ?_); rintro e9 w9 ⟨rfl, hb9⟩; have bR3 := Lib.hid (bR2.out.kept hb9); have HB3 := Lib.hid (HB2.out.trans (hb9.mono HB2.out.size)); clear hb9; obtain ⟨r0, r1, r2, r3, r4, r5, r6⟩ := ch_cells bR3.out.row)
        | (go_at_call 23; (with_reducible refine (HP0.out _ HB3.out).mono ?_); rintro e9 w6 ⟨v6, rfl, ho6, hb9⟩; have HB6 := Lib.hid (HB3.out.trans (hb9.mono HB3.out.size)); have bR6 := Lib.hid (bR3.out.kept hb9); have HO6 := Lib.hid ho6; have HW6 := Lib.hid hb9.size; obtain ⟨ap, cp, rfl, -⟩ := ho6.bys; clear hb9 ho6))
      obtain ⟨s0, s1, s2, s3, s4, s5, s6⟩ := ch_cells bR6.out.row
      clear r0 r1 r2 r3 r4 r5 r6 bR2 HB2 HLC bR3 HB3 HP0
      by_cases h0 : R = 0
      · subst h0
        have HG4 := Lib.hid (HG3.out (by first | rfl | trivial))
        have hpl := HPL.out (by first | rfl | trivial)
        go_upto_region 5 with (go_at_call 13; (with_reducible refine (HG.out _ HB6.out).mono ?_); rintro e9 w8 ⟨rfl, hb9⟩; have HB8 := Lib.hid (HB6.out.trans (hb9.mono HB6.out.size)); have bR8 := Lib.hid (bR6.out.kept hb9); have HO8 := Lib.hid (HO6.out.kept hb9); clear hb9)
        clear s0 s1 s2 s3 s4 s5 s6 HB6 bR6 HO6 HG HPE HPL HG3
        have hal := alloc_below w8 (.cells #[] 5)
        obtain ⟨a6, c6, e6, hy6⟩ := HO8.out.bys
        cases e6
        have hoe := OwnB.empty w8 w8.heap.size 5 (Nat.le_refl _)
        have hyp := hy6.below hal
        clear hy6
        go_upto_region 6 with (first
          | (at_builtin; refine wpList_append_bys rfl (.tmp 33) (.tmp 34) 50 rfl Tryd.underlying50 hi hz0 hz1 hz2 rfl rfl hoe rfl hyp (by simp; omega) hal.size ?_; intro v1 w9 ho9 hg9; rw [List.nil_append] at ho9; have hb9 := Lib.hid (((Below.refl w8.heap.size w8).alloc (Nat.le_refl _) (.cells #[] 5)).grown hg9 (by simp) (fun k hk => (hoe.lt k hk).1)); have hyq := HY.out _ (HB8.out.trans (hb9.out.mono HB8.out.size)))
          | (at_builtin; refine wpList_append_bys rfl (.tmp 35) (.tmp 36) 50 rfl Tryd.underlying50 hi hz0 hz1 hz2 rfl rfl ho9 rfl hyq (by omega) hb9.out.size ?_; intro v2 w10 ho10 hg10; have hb10 := Lib.hid (hb9.out.grown hg10 hb9.out.size (fun k hk => (ho9.lt k hk).1)); obtain ⟨a7, c7, ev, hy7⟩ := ho10.bys; rw [List.length_append, HYL.out] at ev hy7; subst ev; have HBa := Lib.hid (HB8.out.trans (hb10.out.mono HB8.out.size)); have bRa := Lib.hid (bR8.out.kept hb10.out))
          | (go_at_call 20; (with_reducible refine (HG4.out _ HBa.out _ _ _ hy7).mono ?_); rintro e9 w11 ⟨a8, c8, rfl, hX, -, hb11⟩; have HBb := Lib.hid (HBa.out.trans (hb11.mono HBa.out.size)); have bRb := Lib.hid (bRa.out.kept hb11); have HXb := Lib.hid hX; clear hb11 hX))
        have hal2 := alloc_below w11 (.cells #[.int .i64 site, .int .i64 seq, .int .i64 n, .int .i64 s, .int .i64 a, .int .i64 b, .slice a8 m c8] 29)
        have HBc := Lib.hid (HBb.out.trans (hal2.mono HBb.out.size))
        have bRc := Lib.hid (bRb.out.kept hal2)
        have bZc := Lib.hid (show ChBox (w11.alloc (.cells #[.int .i64 site, .int .i64 seq, .int .i64 n, .int .i64 s, .int .i64 a, .int .i64 b, .slice a8 m c8] 29)) w11.heap.size site seq n s a b a8 m c8 ws from ⟨heap_alloc_new w11 _, HXb.out.below hal2⟩)
        obtain ⟨qz, hqz⟩ : ∃ q, w11.heap.size = q := ⟨_, rfl⟩
        rw [hqz] at bZc
        try rw [hqz]
        clear hal2 hqz HBb bRb HXb bRa HBa hy7 ho10 hg10 ho9 hg9 hyq hyp hoe hal bR8 HO8 HB8 hb10 hb9
        generalize w11.alloc (.cells #[.int .i64 site, .int .i64 seq, .int .i64 n, .int .i64 s, .int .i64 a, .int .i64 b, .slice a8 m c8] 29) = V11 at *
        obtain ⟨z0, z1, z2, z3, z4, z5, z6⟩ := ch_cells bZc.out.row
        obtain ⟨s0, s1, s2, s3, s4, s5, s6⟩ := ch_cells bRc.out.row
        have hsm := rchsame_c bZc.out.wrs bRc.out.wrs site seq n s a b site seq n s a b
        rw [chSame_self] at hsm
        have HSM := Lib.hid hsm
        clear hsm
        go_upto_region 10 with (go_at_call 22; (with_reducible refine HSM.out.mono ?_); rintro e9 w12 ⟨rfl, hb12⟩; have HB := Lib.hid (HBc.out.trans (hb12.mono HBc.out.size)); clear hb12)
        clear z0 z1 z2 z3 z4 z5 z6 s0 s1 s2 s3 s4 s5 s6 HSM bZc bRc HBc HG4
        go_upto_region 11 with (go_at_call 20; (with_reducible refine (HGT.out _ HB.out).mono ?_); rintro e9 w7 ⟨a6, c6, rfl, hX6, hsh6, hb6⟩)
        have hal6 := alloc_below w7 (.cells #[.int .i64 g1, .int .i64 g2, .int .i64 g3, .int .i64 g4, .int .i64 g5, .int .i64 g6, .slice a6 gl c6] 29)
        have bD := (show ChBox (w7.alloc (.cells #[.int .i64 g1, .int .i64 g2, .int .i64 g3, .int .i64 g4, .int .i64 g5, .int .i64 g6, .slice a6 gl c6] 29)) w7.heap.size g1 g2 g3 g4 g5 g6 a6 gl c6 gws from ⟨heap_alloc_new w7 _, hX6.below hal6⟩)
        have HB := Lib.hid ((HB.out.trans (hb6.mono HB.out.size)).trans (hal6.mono (Nat.le_trans HB.out.size hb6.size)))
        obtain ⟨gd, hgd⟩ : ∃ q, w7.heap.size = q := ⟨_, rfl⟩
        rw [hgd] at bD ⊢
        clear hgd hb6 HGT hal6 hX6
        generalize w7.alloc (.cells #[.int .i64 g1, .int .i64 g2, .int .i64 g3, .int .i64 g4, .int .i64 g5, .int .i64 g6, .slice a6 gl c6] 29) = W6 at *
        have HCX := Lib.hid (fun W (h : Below W6.heap.size W6 W) => ch_cells (bD.kept h).row)
        have HWX := Lib.hid (fun W (h : Below W6.heap.size W6 W) => (bD.kept h).wrs)
        clear bD
        by_cases hf : gf = 0
        · subst hf
          obtain ⟨q, rfl, hql, hpe6⟩ := HCP.out (by first | rfl | trivial)
          have hqm : q ≤ m9 := by have := HYL.out; omega
          have hqi : ¬ (m9 : Int) < (q : Int) := by omega
          have hsl := slice_to (HY.out _ HB.out) (q := q) hqm
          have hPX := fun W (h : Below w.heap.size w W) (hw : Wrs W a6 gl c6 gws) => HPP.out W h a6 c6 hw hsh6
          obtain ⟨Y1, hY1⟩ : ∃ Z, l.take q = Z := ⟨_, rfl⟩
          simp only [hpe6, hY1] at hPX
          have htb : ((text Y1).toList == (text Y1).toList) = true := by simp
          have htn : ((text Y1).toList != (text Y1).toList) = false := by simp
          obtain ⟨T1, hT1⟩ : ∃ Z, text Y1 = Z := ⟨_, rfl⟩
          rw [hT1] at htb htn
          have HPX := Lib.hid hPX
          have HCV := Lib.hid (fun (W : World) (a3 : Option Addr) (c3 : Nat) (n3 : Nat) (h3 : Bys W a3 n3 c3 Y1) => by have := HCV.out W a3 c3 Y1 n3 h3; rwa [hT1] at this)
          have HYQ := Lib.hid (fun (W : World) (h : Bys W ad m9 cap9 l) => by have := h.take hqm; rwa [hY1] at this)
          clear hql hpe6 hqm hPX hY1 hT1 HPP HCP hsh6
          refine wp_region_flow [none, none, none, none, none, none, none, none, none, none, none, none, none, none, none, none, none, none, none, none, none, none, none, none, none, none, none, none, none, none, none, none, none, none, none, none, none, none, none, none, none, none, none, none, none, none, none, none, none, none, none, none, none, none, none, none, none, none, none, none, none, none, none, none, none, none, none, some 0, some 1, some 2, some 3, some 4, some 5, some 6, some 7, some 8, some 9, some 10, some 11, some 12, some 13, some 14, some 15, some 16, some 17, some 18, none] (fun i => [undef, undef, undef, undef, undef, undef, undef, undef, undef, undef, undef, undef, undef, undef, undef, undef, undef, undef, undef].getD i undef) [(fun v _ => v = .int .i64 0), (fun v _ => v = .bool true), (fun v _ => v = .bool true), (fun v _ => v = .int .i64 (q : Int)), (fun v _ => v = .slice ad m9 cap9), (fun v _ => v = .int .i64 (m9 : Int)), (fun v _ => v = .bool false), (fun v _ => v = .bool false), (fun v _ => v = .slice x n1 cap), (fun v _ => v = .agg #[.int .i64 g1, .int .i64 g2, .int .i64 g3, .int .i64 g4, .int .i64 g5, .int .i64 g6, .slice a6 gl c6]), (fun v W => OwnB W 0 5 v Y1), (fun v _ => v = .string T1), (fun v _ => v = .slice ad m9 cap9), (fun v _ => v = .int .i64 (q : Int)), (fun v _ => v = .slice ad q cap9), (fun v _ => v = .string T1), (fun v _ => v = .bool false), (fun v _ => v = .bool false), (fun v _ => v = .bool false)] (by kernel_rfl) (by kernel_rfl) rfl rfl rfl ?_ ?_ ?_
          · intro g hg v X Y hX hY hv
            simp only [List.mem_cons, List.not_mem_nil, or_false] at hg
            rcases hg with rfl | rfl | rfl | rfl | rfl | rfl | rfl | rfl | rfl | rfl | rfl | rfl | rfl | rfl | rfl | rfl | rfl | rfl | rfl
            all_goals first
              | exact hv
              | exact hv.kept hY
          · simp only [flowOps, and_true]
            refine ⟨?_, ?_, ?_, ?_, ?_, ?_, ?_, ?_, ?_, ?_, ?_, ?_, ?_, ?_, ?_, ?_, ?_, ?_, ?_⟩
            · intro xs W hW hn
              simp only [flowAct, List.zipWith_cons_cons, List.zipWith_nil_left]
              go_wp2_with (fail)
              exact ⟨rfl, _, rfl, Below.refl _ _, rfl⟩
            · intro xs W hW hn
              simp [flowNeeds, Region.binds] at hn
              simp only [flowAct, List.zipWith_cons_cons, List.zipWith_nil_left]
              try simp only [hn]
              go_wp2_with (fail)
              exact ⟨rfl, _, rfl, Below.refl _ _, rfl⟩
            · intro xs W hW hn
              simp [flowNeeds, Region.binds] at hn
              simp only [flowAct, List.zipWith_cons_cons, List.zipWith_nil_left]
              try simp only [hn]
              go_wp2_with (fail)
              exact ⟨rfl, _, rfl, Below.refl _ _, rfl⟩
            · intro xs W hW hn
              simp [flowNeeds, Region.binds] at hn
              simp only [flowAct, List.zipWith_cons_cons, List.zipWith_nil_left]
              try simp only [hn]
              go_wp2_with (fail)
              exact ⟨rfl, _, rfl, Below.refl _ _, rfl⟩
            · intro xs W hW hn
              simp [flowNeeds, Region.binds] at hn
              simp only [flowAct, List.zipWith_cons_cons, List.zipWith_nil_left]
              try simp only [hn]
              go_wp2_with (fail)
              exact ⟨rfl, _, rfl, Below.refl _ _, rfl⟩
            · intro xs W hW hn
              simp [flowNeeds, Region.binds] at hn
              simp only [flowAct, List.zipWith_cons_cons, List.zipWith_nil_left]
              try simp only [hn]
              go_wp2_with (fail)
              exact ⟨rfl, _, rfl, Below.refl _ _, rfl⟩
            · intro xs W hW hn
              simp [flowNeeds, Region.binds] at hn
              simp only [flowAct, List.zipWith_cons_cons, List.zipWith_nil_left]
              try simp only [hn]
              go_wp2_with (fail)
              exact ⟨rfl, _, rfl, Below.refl _ _, rfl⟩
            · intro xs W hW hn
              simp [flowNeeds, Region.binds] at hn
              simp only [flowAct, List.zipWith_cons_cons, List.zipWith_nil_left]
              try simp only [hn]
              go_wp2_with (fail)
              exact ⟨rfl, _, rfl, Below.refl _ _, rfl⟩
            · intro xs W hW hn
              simp [flowNeeds, Region.binds] at hn
              simp only [flowAct, List.zipWith_cons_cons, List.zipWith_nil_left]
              try simp only [hn]
              go_wp2_with (fail)
              exact ⟨rfl, _, rfl, Below.refl _ _, rfl⟩
            · intro xs W hW hn
              obtain ⟨c0, c1, c2, c3, c4, c5, c6⟩ := HCX.out W hW
              simp [flowNeeds, Region.binds] at hn
              simp only [flowAct, List.zipWith_cons_cons, List.zipWith_nil_left]
              try simp only [hn]
              go_wp2_with (fail)
              exact ⟨rfl, _, rfl, Below.refl _ _, rfl⟩
            · intro xs W hW hn
              simp [flowNeeds, Region.binds] at hn
              simp only [flowAct, List.zipWith_cons_cons, List.zipWith_nil_left]
              simp only [hn]
              go_wp2_with (go_at_call 23; (with_reducible refine (HPX.out _ (HB.out.trans (hW.mono HB.out.size)) (HWX.out W hW)).mono ?_); rintro e9 w9 ⟨v9, rfl, ho9, hb9⟩)
              exact ⟨rfl, _, rfl, hb9, ho9.mono (Nat.zero_le _)⟩
            · intro xs W hW hn
              simp [flowNeeds, Region.binds] at hn
              simp only [flowAct, List.zipWith_cons_cons, List.zipWith_nil_left]
              obtain ⟨ho3, e5⟩ := hn
              obtain ⟨a3, c3, e3, hy3⟩ := ho3.bys
              have hcv := HCV.out _ _ _ _ hy3
              simp only [e3, e5]
              go_wp2_with (fail)
              exact ⟨rfl, _, rfl, Below.refl _ _, rfl⟩
            · intro xs W hW hn
              simp [flowNeeds, Region.binds] at hn
              simp only [flowAct, List.zipWith_cons_cons, List.zipWith_nil_left]
              try simp only [hn]
              go_wp2_with (fail)
              exact ⟨rfl, _, rfl, Below.refl _ _, rfl⟩
            · intro xs W hW hn
              simp [flowNeeds, Region.binds] at hn
              simp only [flowAct, List.zipWith_cons_cons, List.zipWith_nil_left]
              try simp only [hn]
              go_wp2_with (fail)
              exact ⟨rfl, _, rfl, Below.refl _ _, rfl⟩
            · intro xs W hW hn
              simp [flowNeeds, Region.binds] at hn
              simp only [flowAct, List.zipWith_cons_cons, List.zipWith_nil_left]
              try simp only [hn]
              go_wp2_with (fail)
              exact ⟨rfl, _, rfl, Below.refl _ _, rfl⟩
            · intro xs W hW hn
              simp [flowNeeds, Region.binds] at hn
              simp only [flowAct, List.zipWith_cons_cons, List.zipWith_nil_left]
              have hcv := HCV.out _ _ _ _ (HYQ.out _ (HY.out W (HB.out.trans (hW.mono HB.out.size))))
              simp only [hn]
              go_wp2_with (fail)
              exact ⟨rfl, _, rfl, Below.refl _ _, rfl⟩
            · intro xs W hW hn
              simp [flowNeeds, Region.binds] at hn
              simp only [flowAct, List.zipWith_cons_cons, List.zipWith_nil_left]
              try simp only [hn]
              go_wp2_with (fail)
              exact ⟨rfl, _, rfl, Below.refl _ _, rfl⟩
            · intro xs W hW hn
              simp [flowNeeds, Region.binds] at hn
              simp only [flowAct, List.zipWith_cons_cons, List.zipWith_nil_left]
              try simp only [hn]
              go_wp2_with (fail)
              exact ⟨rfl, _, rfl, Below.refl _ _, rfl⟩
            · intro xs W hW hn
              simp [flowNeeds, Region.binds] at hn
              simp only [flowAct, List.zipWith_cons_cons, List.zipWith_nil_left]
              try simp only [hn]
              go_wp2_with (fail)
              exact ⟨rfl, _, rfl, Below.refl _ _, rfl⟩
          · intro xs W hW hall
            simp only [flowAll, and_true, Nat.zero_add, Nat.reduceAdd] at hall
            obtain ⟨-, -, -, -, -, -, -, -, -, -, -, -, -, -, -, -, -, -, e18⟩ := hall
            simp only [flowAct, List.zipWith_cons_cons, List.zipWith_nil_left, e18]
            go_wp2_with (go_at_call 10; (with_reducible refine (HLv.out _ (HB.out.trans (hW.mono HB.out.size))).mono ?_); rintro e9 w9 ⟨rfl, hb9⟩; have HBZ := Lib.hid (HB.out.trans ((hW.trans (hb9.mono hW.size)).mono HB.out.size)); clear hb9)
            go_ret
            exact ⟨rfl, HBZ.out⟩
        · have hfn : (gf == 0) = false := by simpa using hf
          clear HPP HCP HCX HWX hsh6
          refine wp_region_flow [none, none, none, none, none, none, none, none, none, none, none, none, none, none, none, none, none, none, none, none, none, none, none, none, none, none, none, none, none, none, none, none, none, none, none, none, none, none, none, none, none, none, none, none, none, none, none, none, none, none, none, none, none, none, none, none, none, none, none, none, none, none, none, none, none, none, none, some 0, some 1, some 2, some 3, some 4, some 5, some 6, some 7, some 8, some 9, some 10, some 11, some 12, some 13, some 14, some 15, some 16, some 17, some 18, none] (fun i => [undef, undef, undef, undef, undef, undef, undef, undef, undef, undef, undef, undef, undef, undef, undef, undef, undef, undef, undef].getD i undef) [(fun v _ => v = .int .i64 gf), (fun v _ => v = .bool false), (fun v _ => v = .bool false), (fun v _ => v = undef), (fun v _ => v = undef), (fun v _ => v = undef), (fun v _ => v = undef), (fun v _ => v = undef), (fun v _ => v = undef), (fun v _ => v = undef), (fun v _ => v = undef), (fun v _ => v = undef), (fun v _ => v = undef), (fun v _ => v = undef), (fun v _ => v = undef), (fun v _ => v = undef), (fun v _ => v = undef), (fun v _ => v = undef), (fun v _ => v = .bool false)] (by kernel_rfl) (by kernel_rfl) rfl rfl rfl ?_ ?_ ?_
          · intro g hg v X Y hX hY hv
            simp only [List.mem_cons, List.not_mem_nil, or_false] at hg
            rcases hg with rfl | rfl | rfl | rfl | rfl | rfl | rfl | rfl | rfl | rfl | rfl | rfl | rfl | rfl | rfl | rfl | rfl | rfl | rfl
            all_goals first
              | exact hv
              | exact hv.kept hY
          · simp only [flowOps, and_true]
            refine ⟨?_, ?_, ?_, ?_, ?_, ?_, ?_, ?_, ?_, ?_, ?_, ?_, ?_, ?_, ?_, ?_, ?_, ?_, ?_⟩
            · intro xs W hW hn
              simp only [flowAct, List.zipWith_cons_cons, List.zipWith_nil_left]
              go_wp2_with (fail)
              exact ⟨rfl, _, rfl, Below.refl _ _, rfl⟩
            · intro xs W hW hn
              simp [flowNeeds, Region.binds] at hn
              simp only [flowAct, List.zipWith_cons_cons, List.zipWith_nil_left]
              try simp only [hn]
              go_wp2_with (fail)
              exact ⟨rfl, _, rfl, Below.refl _ _, rfl⟩
            · intro xs W hW hn
              simp [flowNeeds, Region.binds] at hn
              simp only [flowAct, List.zipWith_cons_cons, List.zipWith_nil_left]
              try simp only [hn]
              go_wp2_with (fail)
              exact ⟨rfl, _, rfl, Below.refl _ _, rfl⟩
            · intro xs W hW hn
              simp [flowNeeds, Region.binds] at hn
              simp only [flowAct, List.zipWith_cons_cons, List.zipWith_nil_left]
              try simp only [hn]
              go_wp2_with (fail)
              exact ⟨rfl, _, rfl, Below.refl _ _, rfl⟩
            · intro xs W hW hn
              simp [flowNeeds, Region.binds] at hn
              simp only [flowAct, List.zipWith_cons_cons, List.zipWith_nil_left]
              try simp only [hn]
              go_wp2_with (fail)
              exact ⟨rfl, _, rfl, Below.refl _ _, rfl⟩
            · intro xs W hW hn
              simp [flowNeeds, Region.binds] at hn
              simp only [flowAct, List.zipWith_cons_cons, List.zipWith_nil_left]
              try simp only [hn]
              go_wp2_with (fail)
              exact ⟨rfl, _, rfl, Below.refl _ _, rfl⟩
            · intro xs W hW hn
              simp [flowNeeds, Region.binds] at hn
              simp only [flowAct, List.zipWith_cons_cons, List.zipWith_nil_left]
              try simp only [hn]
              go_wp2_with (fail)
              exact ⟨rfl, _, rfl, Below.refl _ _, rfl⟩
            · intro xs W hW hn
              simp [flowNeeds, Region.binds] at hn
              simp only [flowAct, List.zipWith_cons_cons, List.zipWith_nil_left]
              try simp only [hn]
              go_wp2_with (fail)
              exact ⟨rfl, _, rfl, Below.refl _ _, rfl⟩
            · intro xs W hW hn
              simp [flowNeeds, Region.binds] at hn
              simp only [flowAct, List.zipWith_cons_cons, List.zipWith_nil_left]
              try simp only [hn]
              go_wp2_with (fail)
              exact ⟨rfl, _, rfl, Below.refl _ _, rfl⟩
            · intro xs W hW hn
              simp [flowNeeds, Region.binds] at hn
              simp only [flowAct, List.zipWith_cons_cons, List.zipWith_nil_left]
              try simp only [hn]
              go_wp2_with (fail)
              exact ⟨rfl, _, rfl, Below.refl _ _, rfl⟩
            · intro xs W hW hn
              simp [flowNeeds, Region.binds] at hn
              simp only [flowAct, List.zipWith_cons_cons, List.zipWith_nil_left]
              try simp only [hn]
              go_wp2_with (fail)
              exact ⟨rfl, _, rfl, Below.refl _ _, rfl⟩
            · intro xs W hW hn
              simp [flowNeeds, Region.binds] at hn
              simp only [flowAct, List.zipWith_cons_cons, List.zipWith_nil_left]
              try simp only [hn]
              go_wp2_with (fail)
              exact ⟨rfl, _, rfl, Below.refl _ _, rfl⟩
            · intro xs W hW hn
              simp [flowNeeds, Region.binds] at hn
              simp only [flowAct, List.zipWith_cons_cons, List.zipWith_nil_left]
              try simp only [hn]
              go_wp2_with (fail)
              exact ⟨rfl, _, rfl, Below.refl _ _, rfl⟩
            · intro xs W hW hn
              simp [flowNeeds, Region.binds] at hn
              simp only [flowAct, List.zipWith_cons_cons, List.zipWith_nil_left]
              try simp only [hn]
              go_wp2_with (fail)
              exact ⟨rfl, _, rfl, Below.refl _ _, rfl⟩
            · intro xs W hW hn
              simp [flowNeeds, Region.binds] at hn
              simp only [flowAct, List.zipWith_cons_cons, List.zipWith_nil_left]
              try simp only [hn]
              go_wp2_with (fail)
              exact ⟨rfl, _, rfl, Below.refl _ _, rfl⟩
            · intro xs W hW hn
              simp [flowNeeds, Region.binds] at hn
              simp only [flowAct, List.zipWith_cons_cons, List.zipWith_nil_left]
              try simp only [hn]
              go_wp2_with (fail)
              exact ⟨rfl, _, rfl, Below.refl _ _, rfl⟩
            · intro xs W hW hn
              simp [flowNeeds, Region.binds] at hn
              simp only [flowAct, List.zipWith_cons_cons, List.zipWith_nil_left]
              try simp only [hn]
              go_wp2_with (fail)
              exact ⟨rfl, _, rfl, Below.refl _ _, rfl⟩
            · intro xs W hW hn
              simp [flowNeeds, Region.binds] at hn
              simp only [flowAct, List.zipWith_cons_cons, List.zipWith_nil_left]
              try simp only [hn]
              go_wp2_with (fail)
              exact ⟨rfl, _, rfl, Below.refl _ _, rfl⟩
            · intro xs W hW hn
              simp [flowNeeds, Region.binds] at hn
              simp only [flowAct, List.zipWith_cons_cons, List.zipWith_nil_left]
              try simp only [hn]
              go_wp2_with (fail)
              exact ⟨rfl, _, rfl, Below.refl _ _, rfl⟩
          · intro xs W hW hall
            simp only [flowAll, and_true, Nat.zero_add, Nat.reduceAdd] at hall
            obtain ⟨-, -, -, -, -, -, -, -, -, -, -, -, -, -, -, -, -, -, e18⟩ := hall
            simp only [flowAct, List.zipWith_cons_cons, List.zipWith_nil_left, e18]
            go_wp2_with (go_at_call 10; (with_reducible refine (HLv.out _ (HB.out.trans (hW.mono HB.out.size))).mono ?_); rintro e9 w9 ⟨rfl, hb9⟩; have HBZ := Lib.hid (HB.out.trans ((hW.trans (hb9.mono hW.size)).mono HB.out.size)); clear hb9)
            go_ret
            exact ⟨rfl, HBZ.out⟩
      · have h0n : (R == 0) = false := by simpa using h0
        have hpe := HPE.out h0
        have hpi : ¬ (0 : Int) < (PL.length : Int) := by omega
        clear h0
        go_upto_region 10 with (go_at_call 13; (with_reducible refine (HG.out _ HB6.out).mono ?_); rintro e9 w8 ⟨rfl, hb9⟩; have HB := Lib.hid (HB6.out.trans (hb9.mono HB6.out.size)); clear hb9)
        clear s0 s1 s2 s3 s4 s5 s6 HB6 bR6 HO6 HG HPE HPL HG3
        go_upto_region 11 with (go_at_call 20; (with_reducible refine (HGT.out _ HB.out).mono ?_); rintro e9 w7 ⟨a6, c6, rfl, hX6, hsh6, hb6⟩)
        have hal6 := alloc_below w7 (.cells #[.int .i64 g1, .int .i64 g2, .int .i64 g3, .int .i64 g4, .int .i64 g5, .int .i64 g6, .slice a6 gl c6] 29)
        have bD := (show ChBox (w7.alloc (.cells #[.int .i64 g1, .int .i64 g2, .int .i64 g3, .int .i64 g4, .int .i64 g5, .int .i64 g6, .slice a6 gl c6] 29)) w7.heap.size g1 g2 g3 g4 g5 g6 a6 gl c6 gws from ⟨heap_alloc_new w7 _, hX6.below hal6⟩)
        have HB := Lib.hid ((HB.out.trans (hb6.mono HB.out.size)).trans (hal6.mono (Nat.le_trans HB.out.size hb6.size)))
        obtain ⟨gd, hgd⟩ : ∃ q, w7.heap.size = q := ⟨_, rfl⟩
        rw [hgd] at bD ⊢
        clear hgd hb6 HGT hal6 hX6
        generalize w7.alloc (.cells #[.int .i64 g1, .int .i64 g2, .int .i64 g3, .int .i64 g4, .int .i64 g5, .int .i64 g6, .slice a6 gl c6] 29) = W6 at *
        have HCX := Lib.hid (fun W (h : Below W6.heap.size W6 W) => ch_cells (bD.kept h).row)
        have HWX := Lib.hid (fun W (h : Below W6.heap.size W6 W) => (bD.kept h).wrs)
        clear bD
        by_cases hf : gf = 0
        · subst hf
          obtain ⟨q, rfl, hql, hpe6⟩ := HCP.out (by first | rfl | trivial)
          have hqm : q ≤ m9 := by have := HYL.out; omega
          have hqi : ¬ (m9 : Int) < (q : Int) := by omega
          have hsl := slice_to (HY.out _ HB.out) (q := q) hqm
          have hPX := fun W (h : Below w.heap.size w W) (hw : Wrs W a6 gl c6 gws) => HPP.out W h a6 c6 hw hsh6
          obtain ⟨Y1, hY1⟩ : ∃ Z, l.take q = Z := ⟨_, rfl⟩
          simp only [hpe6, hY1] at hPX
          have htb : ((text Y1).toList == (text Y1).toList) = true := by simp
          have htn : ((text Y1).toList != (text Y1).toList) = false := by simp
          obtain ⟨T1, hT1⟩ : ∃ Z, text Y1 = Z := ⟨_, rfl⟩
          rw [hT1] at htb htn
          have HPX := Lib.hid hPX
          have HCV := Lib.hid (fun (W : World) (a3 : Option Addr) (c3 : Nat) (n3 : Nat) (h3 : Bys W a3 n3 c3 Y1) => by have := HCV.out W a3 c3 Y1 n3 h3; rwa [hT1] at this)
          have HYQ := Lib.hid (fun (W : World) (h : Bys W ad m9 cap9 l) => by have := h.take hqm; rwa [hY1] at this)
          clear hql hpe6 hqm hPX hY1 hT1 HPP HCP hsh6
          refine wp_region_flow [none, none, none, none, none, none, none, none, none, none, none, none, none, none, none, none, none, none, none, none, none, none, none, none, none, none, none, none, none, none, none, none, none, none, none, none, none, none, none, none, none, none, none, none, none, none, none, none, none, none, none, none, none, none, none, none, none, none, none, none, none, none, none, none, none, none, none, some 0, some 1, some 2, some 3, some 4, some 5, some 6, some 7, some 8, some 9, some 10, some 11, some 12, some 13, some 14, some 15, some 16, some 17, some 18, none] (fun i => [undef, undef, undef, undef, undef, undef, undef, undef, undef, undef, undef, undef, undef, undef, undef, undef, undef, undef, undef].getD i undef) [(fun v _ => v = .int .i64 0), (fun v _ => v = .bool true), (fun v _ => v = .bool true), (fun v _ => v = .int .i64 (q : Int)), (fun v _ => v = .slice ad m9 cap9), (fun v _ => v = .int .i64 (m9 : Int)), (fun v _ => v = .bool false), (fun v _ => v = .bool false), (fun v _ => v = .slice x n1 cap), (fun v _ => v = .agg #[.int .i64 g1, .int .i64 g2, .int .i64 g3, .int .i64 g4, .int .i64 g5, .int .i64 g6, .slice a6 gl c6]), (fun v W => OwnB W 0 5 v Y1), (fun v _ => v = .string T1), (fun v _ => v = .slice ad m9 cap9), (fun v _ => v = .int .i64 (q : Int)), (fun v _ => v = .slice ad q cap9), (fun v _ => v = .string T1), (fun v _ => v = .bool false), (fun v _ => v = .bool false), (fun v _ => v = .bool false)] (by kernel_rfl) (by kernel_rfl) rfl rfl rfl ?_ ?_ ?_
          · intro g hg v X Y hX hY hv
            simp only [List.mem_cons, List.not_mem_nil, or_false] at hg
            rcases hg with rfl | rfl | rfl | rfl | rfl | rfl | rfl | rfl | rfl | rfl | rfl | rfl | rfl | rfl | rfl | rfl | rfl | rfl | rfl
            all_goals first
              | exact hv
              | exact hv.kept hY
          · simp only [flowOps, and_true]
            refine ⟨?_, ?_, ?_, ?_, ?_, ?_, ?_, ?_, ?_, ?_, ?_, ?_, ?_, ?_, ?_, ?_, ?_, ?_, ?_⟩
            · intro xs W hW hn
              simp only [flowAct, List.zipWith_cons_cons, List.zipWith_nil_left]
              go_wp2_with (fail)
              exact ⟨rfl, _, rfl, Below.refl _ _, rfl⟩
            · intro xs W hW hn
              simp [flowNeeds, Region.binds] at hn
              simp only [flowAct, List.zipWith_cons_cons, List.zipWith_nil_left]
              try simp only [hn]
              go_wp2_with (fail)
              exact ⟨rfl, _, rfl, Below.refl _ _, rfl⟩
            · intro xs W hW hn
              simp [flowNeeds, Region.binds] at hn
              simp only [flowAct, List.zipWith_cons_cons, List.zipWith_nil_left]
              try simp only [hn]
              go_wp2_with (fail)
              exact ⟨rfl, _, rfl, Below.refl _ _, rfl⟩
            · intro xs W hW hn
              simp [flowNeeds, Region.binds] at hn
              simp only [flowAct, List.zipWith_cons_cons, List.zipWith_nil_left]
              try simp only [hn]
              go_wp2_with (fail)
              exact ⟨rfl, _, rfl, Below.refl _ _, rfl⟩
            · intro xs W hW hn
              simp [flowNeeds, Region.binds] at hn
              simp only [flowAct, List.zipWith_cons_cons, List.zipWith_nil_left]
              try simp only [hn]
              go_wp2_with (fail)
              exact ⟨rfl, _, rfl, Below.refl _ _, rfl⟩
            · intro xs W hW hn
              simp [flowNeeds, Region.binds] at hn
              simp only [flowAct, List.zipWith_cons_cons, List.zipWith_nil_left]
              try simp only [hn]
              go_wp2_with (fail)
              exact ⟨rfl, _, rfl, Below.refl _ _, rfl⟩
            · intro xs W hW hn
              simp [flowNeeds, Region.binds] at hn
              simp only [flowAct, List.zipWith_cons_cons, List.zipWith_nil_left]
              try simp only [hn]
              go_wp2_with (fail)
              exact ⟨rfl, _, rfl, Below.refl _ _, rfl⟩
            · intro xs W hW hn
              simp [flowNeeds, Region.binds] at hn
              simp only [flowAct, List.zipWith_cons_cons, List.zipWith_nil_left]
              try simp only [hn]
              go_wp2_with (fail)
              exact ⟨rfl, _, rfl, Below.refl _ _, rfl⟩
            · intro xs W hW hn
              simp [flowNeeds, Region.binds] at hn
              simp only [flowAct, List.zipWith_cons_cons, List.zipWith_nil_left]
              try simp only [hn]
              go_wp2_with (fail)
              exact ⟨rfl, _, rfl, Below.refl _ _, rfl⟩
            · intro xs W hW hn
              obtain ⟨c0, c1, c2, c3, c4, c5, c6⟩ := HCX.out W hW
              simp [flowNeeds, Region.binds] at hn
              simp only [flowAct, List.zipWith_cons_cons, List.zipWith_nil_left]
              try simp only [hn]
              go_wp2_with (fail)
              exact ⟨rfl, _, rfl, Below.refl _ _, rfl⟩
            · intro xs W hW hn
              simp [flowNeeds, Region.binds] at hn
              simp only [flowAct, List.zipWith_cons_cons, List.zipWith_nil_left]
              simp only [hn]
              go_wp2_with (go_at_call 23; (with_reducible refine (HPX.out _ (HB.out.trans (hW.mono HB.out.size)) (HWX.out W hW)).mono ?_); rintro e9 w9 ⟨v9, rfl, ho9, hb9⟩)
              exact ⟨rfl, _, rfl, hb9, ho9.mono (Nat.zero_le _)⟩
            · intro xs W hW hn
              simp [flowNeeds, Region.binds] at hn
              simp only [flowAct, List.zipWith_cons_cons, List.zipWith_nil_left]
              obtain ⟨ho3, e5⟩ := hn
              obtain ⟨a3, c3, e3, hy3⟩ := ho3.bys
              have hcv := HCV.out _ _ _ _ hy3
              simp only [e3, e5]
              go_wp2_with (fail)
              exact ⟨rfl, _, rfl, Below.refl _ _, rfl⟩
            · intro xs W hW hn
              simp [flowNeeds, Region.binds] at hn
              simp only [flowAct, List.zipWith_cons_cons, List.zipWith_nil_left]
              try simp only [hn]
              go_wp2_with (fail)
              exact ⟨rfl, _, rfl, Below.refl _ _, rfl⟩
            · intro xs W hW hn
              simp [flowNeeds, Region.binds] at hn
              simp only [flowAct, List.zipWith_cons_cons, List.zipWith_nil_left]
              try simp only [hn]
              go_wp2_with (fail)
              exact ⟨rfl, _, rfl, Below.refl _ _, rfl⟩
            · intro xs W hW hn
              simp [flowNeeds, Region.binds] at hn
              simp only [flowAct, List.zipWith_cons_cons, List.zipWith_nil_left]
              try simp only [hn]
              go_wp2_with (fail)
              exact ⟨rfl, _, rfl, Below.refl _ _, rfl⟩
            · intro xs W hW hn
              simp [flowNeeds, Region.binds] at hn
              simp only [flowAct, List.zipWith_cons_cons, List.zipWith_nil_left]
              have hcv := HCV.out _ _ _ _ (HYQ.out _ (HY.out W (HB.out.trans (hW.mono HB.out.size))))
              simp only [hn]
              go_wp2_with (fail)
              exact ⟨rfl, _, rfl, Below.refl _ _, rfl⟩
            · intro xs W hW hn
              simp [flowNeeds, Region.binds] at hn
              simp only [flowAct, List.zipWith_cons_cons, List.zipWith_nil_left]
              try simp only [hn]
              go_wp2_with (fail)
              exact ⟨rfl, _, rfl, Below.refl _ _, rfl⟩
            · intro xs W hW hn
              simp [flowNeeds, Region.binds] at hn
              simp only [flowAct, List.zipWith_cons_cons, List.zipWith_nil_left]
              try simp only [hn]
              go_wp2_with (fail)
              exact ⟨rfl, _, rfl, Below.refl _ _, rfl⟩
            · intro xs W hW hn
              simp [flowNeeds, Region.binds] at hn
              simp only [flowAct, List.zipWith_cons_cons, List.zipWith_nil_left]
              try simp only [hn]
              go_wp2_with (fail)
              exact ⟨rfl, _, rfl, Below.refl _ _, rfl⟩
          · intro xs W hW hall
            simp only [flowAll, and_true, Nat.zero_add, Nat.reduceAdd] at hall
            obtain ⟨-, -, -, -, -, -, -, -, -, -, -, -, -, -, -, -, -, -, e18⟩ := hall
            simp only [flowAct, List.zipWith_cons_cons, List.zipWith_nil_left, e18]
            go_wp2_with (go_at_call 10; (with_reducible refine (HLv.out _ (HB.out.trans (hW.mono HB.out.size))).mono ?_); rintro e9 w9 ⟨rfl, hb9⟩; have HBZ := Lib.hid (HB.out.trans ((hW.trans (hb9.mono hW.size)).mono HB.out.size)); clear hb9)
            go_ret
            exact ⟨rfl, HBZ.out⟩
        · have hfn : (gf == 0) = false := by simpa using hf
          clear HPP HCP HCX HWX hsh6
          refine wp_region_flow [none, none, none, none, none, none, none, none, none, none, none, none, none, none, none, none, none, none, none, none, none, none, none, none, none, none, none, none, none, none, none, none, none, none, none, none, none, none, none, none, none, none, none, none, none, none, none, none, none, none, none, none, none, none, none, none, none, none, none, none, none, none, none, none, none, none, none, some 0, some 1, some 2, some 3, some 4, some 5, some 6, some 7, some 8, some 9, some 10, some 11, some 12, some 13, some 14, some 15, some 16, some 17, some 18, none] (fun i => [undef, undef, undef, undef, undef, undef, undef, undef, undef, undef, undef, undef, undef, undef, undef, undef, undef, undef, undef].getD i undef) [(fun v _ => v = .int .i64 gf), (fun v _ => v = .bool false), (fun v _ => v = .bool false), (fun v _ => v = undef), (fun v _ => v = undef), (fun v _ => v = undef), (fun v _ => v = undef), (fun v _ => v = undef), (fun v _ => v = undef), (fun v _ => v = undef), (fun v _ => v = undef), (fun v _ => v = undef), (fun v _ => v = undef), (fun v _ => v = undef), (fun v _ => v = undef), (fun v _ => v = undef), (fun v _ => v = undef), (fun v _ => v = undef), (fun v _ => v = .bool false)] (by kernel_rfl) (by kernel_rfl) rfl rfl rfl ?_ ?_ ?_
          · intro g hg v X Y hX hY hv
            simp only [List.mem_cons, List.not_mem_nil, or_false] at hg
            rcases hg with rfl | rfl | rfl | rfl | rfl | rfl | rfl | rfl | rfl | rfl | rfl | rfl | rfl | rfl | rfl | rfl | rfl | rfl | rfl
            all_goals first
              | exact hv
              | exact hv.kept hY
          · simp only [flowOps, and_true]
            refine ⟨?_, ?_, ?_, ?_, ?_, ?_, ?_, ?_, ?_, ?_, ?_, ?_, ?_, ?_, ?_, ?_, ?_, ?_, ?_⟩
            · intro xs W hW hn
              simp only [flowAct, List.zipWith_cons_cons, List.zipWith_nil_left]
              go_wp2_with (fail)
              exact ⟨rfl, _, rfl, Below.refl _ _, rfl⟩
            · intro xs W hW hn
              simp [flowNeeds, Region.binds] at hn
              simp only [flowAct, List.zipWith_cons_cons, List.zipWith_nil_left]
              try simp only [hn]
              go_wp2_with (fail)
              exact ⟨rfl, _, rfl, Below.refl _ _, rfl⟩
            · intro xs W hW hn
              simp [flowNeeds, Region.binds] at hn
              simp only [flowAct, List.zipWith_cons_cons, List.zipWith_nil_left]
              try simp only [hn]
              go_wp2_with (fail)
              exact ⟨rfl, _, rfl, Below.refl _ _, rfl⟩
            · intro xs W hW hn
              simp [flowNeeds, Region.binds] at hn
              simp only [flowAct, List.zipWith_cons_cons, List.zipWith_nil_left]
              try simp only [hn]
              go_wp2_with (fail)
              exact ⟨rfl, _, rfl, Below.refl _ _, rfl⟩
            · intro xs W hW hn
              simp [flowNeeds, Region.binds] at hn
              simp only [flowAct, List.zipWith_cons_cons, List.zipWith_nil_left]
              try simp only [hn]
              go_wp2_with (fail)
              exact ⟨rfl, _, rfl, Below.refl _ _, rfl⟩
            · intro xs W hW hn
              simp [flowNeeds, Region.binds] at hn
              simp only [flowAct, List.zipWith_cons_cons, List.zipWith_nil_left]
              try simp only [hn]
              go_wp2_with (fail)
              exact ⟨rfl, _, rfl, Below.refl _ _, rfl⟩
            · intro xs W hW hn
              simp [flowNeeds, Region.binds] at hn
              simp only [flowAct, List.zipWith_cons_cons, List.zipWith_nil_left]
              try simp only [hn]
              go_wp2_with (fail)
              exact ⟨rfl, _, rfl, Below.refl _ _, rfl⟩
            · intro xs W hW hn
              simp [flowNeeds, Region.binds] at hn
              simp only [flowAct, List.zipWith_cons_cons, List.zipWith_nil_left]
              try simp only [hn]
              go_wp2_with (fail)
              exact ⟨rfl, _, rfl, Below.refl _ _, rfl⟩
            · intro xs W hW hn
              simp [flowNeeds, Region.binds] at hn
              simp only [flowAct, List.zipWith_cons_cons, List.zipWith_nil_left]
              try simp only [hn]
              go_wp2_with (fail)
              exact ⟨rfl, _, rfl, Below.refl _ _, rfl⟩
            · intro xs W hW hn
              simp [flowNeeds, Region.binds] at hn
              simp only [flowAct, List.zipWith_cons_cons, List.zipWith_nil_left]
              try simp only [hn]
              go_wp2_with (fail)
              exact ⟨rfl, _, rfl, Below.refl _ _, rfl⟩
            · intro xs W hW hn
              simp [flowNeeds, Region.binds] at hn
              simp only [flowAct, List.zipWith_cons_cons, List.zipWith_nil_left]
              try simp only [hn]
              go_wp2_with (fail)
              exact ⟨rfl, _, rfl, Below.refl _ _, rfl⟩
            · intro xs W hW hn
              simp [flowNeeds, Region.binds] at hn
              simp only [flowAct, List.zipWith_cons_cons, List.zipWith_nil_left]
              try simp only [hn]
              go_wp2_with (fail)
              exact ⟨rfl, _, rfl, Below.refl _ _, rfl⟩
            · intro xs W hW hn
              simp [flowNeeds, Region.binds] at hn
              simp only [flowAct, List.zipWith_cons_cons, List.zipWith_nil_left]
              try simp only [hn]
              go_wp2_with (fail)
              exact ⟨rfl, _, rfl, Below.refl _ _, rfl⟩
            · intro xs W hW hn
              simp [flowNeeds, Region.binds] at hn
              simp only [flowAct, List.zipWith_cons_cons, List.zipWith_nil_left]
              try simp only [hn]
              go_wp2_with (fail)
              exact ⟨rfl, _, rfl, Below.refl _ _, rfl⟩
            · intro xs W hW hn
              simp [flowNeeds, Region.binds] at hn
              simp only [flowAct, List.zipWith_cons_cons, List.zipWith_nil_left]
              try simp only [hn]
              go_wp2_with (fail)
              exact ⟨rfl, _, rfl, Below.refl _ _, rfl⟩
            · intro xs W hW hn
              simp [flowNeeds, Region.binds] at hn
              simp only [flowAct, List.zipWith_cons_cons, List.zipWith_nil_left]
              try simp only [hn]
              go_wp2_with (fail)
              exact ⟨rfl, _, rfl, Below.refl _ _, rfl⟩
            · intro xs W hW hn
              simp [flowNeeds, Region.binds] at hn
              simp only [flowAct, List.zipWith_cons_cons, List.zipWith_nil_left]
              try simp only [hn]
              go_wp2_with (fail)
              exact ⟨rfl, _, rfl, Below.refl _ _, rfl⟩
            · intro xs W hW hn
              simp [flowNeeds, Region.binds] at hn
              simp only [flowAct, List.zipWith_cons_cons, List.zipWith_nil_left]
              try simp only [hn]
              go_wp2_with (fail)
              exact ⟨rfl, _, rfl, Below.refl _ _, rfl⟩
            · intro xs W hW hn
              simp [flowNeeds, Region.binds] at hn
              simp only [flowAct, List.zipWith_cons_cons, List.zipWith_nil_left]
              try simp only [hn]
              go_wp2_with (fail)
              exact ⟨rfl, _, rfl, Below.refl _ _, rfl⟩
          · intro xs W hW hall
            simp only [flowAll, and_true, Nat.zero_add, Nat.reduceAdd] at hall
            obtain ⟨-, -, -, -, -, -, -, -, -, -, -, -, -, -, -, -, -, -, e18⟩ := hall
            simp only [flowAct, List.zipWith_cons_cons, List.zipWith_nil_left, e18]
            go_wp2_with (go_at_call 10; (with_reducible refine (HLv.out _ (HB.out.trans (hW.mono HB.out.size))).mono ?_); rintro e9 w9 ⟨rfl, hb9⟩; have HBZ := Lib.hid (HB.out.trans ((hW.trans (hb9.mono hW.size)).mono HB.out.size)); clear hb9)
            go_ret
            exact ⟨rfl, HBZ.out⟩
end Go.Proofs.YtfkmfccdhmnllaaDoor
end

section
namespace Go.Proofs.YtfkmfccdhmnllaaDoor
open Go.RowKit Go Go.Sort Go.Deep
set_option linter.unusedVariables false
set_option maxRecDepth 20000

theorem grp_cells {H : Type} {enc : TypeId × Value → H} {W : World} {base : Nat} {sp held : Bool} {fuel : Nat} {cs : List Value} {x : DataW H × List MemPlace} (h : DataW.trod enc Tryd.prog W base (fun _ => sp) held fuel 65 cs = some x) :
    ∃ (s : List UInt8) (p : Int), cs = [.string (text s), .int .i64 p] ∧ s.length ≤ maxLen ∧ -9223372036854775808 ≤ p ∧ p ≤ 9223372036854775807 := by
  obtain ⟨xs, m, _, rfl, hl, hlen, hf⟩ := DataW.trod_struct Tryd.underlying65 h
  have h2 : Tryd.prog.cellsOf 65 = 2 := by kernel_rfl
  have h1 : Tryd.prog.cellsOf 3 = 1 := by kernel_rfl
  have h9 : Tryd.prog.cellsOf 9 = 1 := by kernel_rfl
  rw [h2] at hl
  match xs, hlen with
  | [y0, y1], _ =>
    have i0 := hf 0 _ rfl
    have i1 := hf 1 _ rfl
    match cs, hl with
    | [c0, c1], _ =>
      have j0 : DataW.trod enc Tryd.prog W base (fun _ => sp) held m 9 (([c0, c1].drop 0).take (Tryd.prog.cellsOf 9)) = some y0 := i0
      have j1 : DataW.trod enc Tryd.prog W base (fun _ => sp) held m 3 (([c0, c1].drop 1).take (Tryd.prog.cellsOf 3)) = some y1 := i1
      rw [h9] at j0
      rw [h1] at j1
      obtain ⟨s, hs, _, ws⟩ := DataW.trod_string Tryd.underlying9 j0
      obtain ⟨b, hb, _, wb⟩ := DataW.trod_int Tryd.underlying3 j1
      simp at hs hb
      subst hs
      subst hb
      exact ⟨s.data.toList, b, rfl, by simpa using ws, i64_of_wf wb⟩
/-- A list of groups that came in. -/
theorem open_grs {H : Type} {enc : TypeId × Value → H} {W : World} {a : Option Addr} {len cap : Nat} {d : DataW H} {p : List MemPlace} (h : DataW.Trod enc Tryd.prog W 0 (fun _ => true) true 22 (.slice a len cap) d p) :
    ∃ l, Grs W a len cap l ∧ ∀ g ∈ l, g.1.length ≤ 9223372036854775807 := by
  have hc : Tryd.prog.cellsOf 65 = 2 := by kernel_rfl
  obtain ⟨fuel, hf⟩ := h
  rcases open_slice Tryd.underlying22 hf with ⟨hcs, hx⟩ | ⟨x, l, c, m, n, D, Pl, hcs, _, hl, hm, hmm, hx, hcell⟩
  · simp [Value.cells] at hcs
    obtain ⟨rfl, rfl, rfl⟩ := hcs
    exact ⟨[], ⟨rfl, Nat.le_refl _, by omega, .inl rfl⟩, by simp⟩
  · simp [Value.cells] at hcs
    obtain ⟨rfl, rfl, rfl⟩ := hcs
    simp only [if_true] at hmm
    subst hmm
    rw [hc] at hcell
    have key : ∀ i, i < m → ∃ q : Grp, W.cell? (x.add (i * 2)) = some (.string (text q.1)) ∧ W.cell? ((x.add (i * 2)).add 1) = some (.int .i64 q.2) ∧ q.1.length ≤ 9223372036854775807 := by
      intro i hi
      obtain ⟨cs', h1, h2⟩ := hcell i hi
      obtain ⟨_, _, h3⟩ := World.cells?_some h1
      obtain ⟨u, v, rfl, hu, hv⟩ := grp_cells (sp := true) h2
      have k0 := h3 0 (by omega)
      have k1 := h3 1 (by omega)
      refine ⟨(u, v), ?_, ?_, by unfold maxLen at hu; exact hu⟩
      · simpa [Addr.add] using k0
      · simpa using k1
    obtain ⟨V, hV⟩ := choose_lt (α := Grp) (p := fun i q => W.cell? (x.add (i * 2)) = some (.string (text q.1)) ∧ W.cell? ((x.add (i * 2)).add 1) = some (.int .i64 q.2) ∧ q.1.length ≤ 9223372036854775807) key
    have hgd : ∀ i, i < len → ((List.range len).map V).getD i ([], 0) = V i := fun i hi => by simp [List.getD, hi]
    refine ⟨(List.range len).map V, ⟨by simp, hl, by unfold maxLen at hm; omega, ?_⟩, ?_⟩
    · by_cases hz : m = 0
      · exact .inl hz
      · right
        obtain ⟨b, off, spot⟩ := x
        have h0 := (hV 0 (by omega)).1
        have hspot : spot = none := by simpa [Addr.add] using World.cell?_spot h0
        subst hspot
        refine ⟨b, off, rfl, fun i hi => ?_⟩
        rw [hgd i hi]
        obtain ⟨q1, q2, _⟩ := hV i (by omega)
        have e1 : (⟨b, off, none⟩ : Addr).add (i * 2) = ⟨b, off + i * 2, none⟩ := by
          by_cases h0 : i * 2 = 0
          · rw [h0]; rfl
          · simp [Addr.add, h0]
        rw [e1] at q1 q2
        exact ⟨q1, q2⟩
    · intro g hg
      obtain ⟨i, hi, rfl⟩ := List.mem_map.1 hg
      exact (hV i (by have := List.mem_range.1 hi; omega)).2.2
end Go.Proofs.YtfkmfccdhmnllaaDoor
end

section
namespace Go.Proofs.YtfkmfccdhmnllaaDoor
open Go.RowKit Go Go.Sort Go.Deep
set_option linter.unusedVariables false
set_option maxRecDepth 20000

theorem choose_at {α : Type} {n : Nat} {p : Nat → α → Prop} (h : ∀ i, i < n → ∃ q, p i q) : ∃ V : Nat → Option α, ∀ i, i < n → ∃ q, V i = some q ∧ p i q := by
  induction n with
  | zero => exact ⟨fun _ => none, fun i hi => by omega⟩
  | succ n ih =>
    obtain ⟨V, hV⟩ := ih fun i hi => h i (by omega)
    obtain ⟨q, hq⟩ := h n (by omega)
    refine ⟨fun i => if i = n then some q else V i, fun i hi => ?_⟩
    by_cases e : i = n
    · subst e; exact ⟨q, by simp, hq⟩
    · simp only [if_neg e]; exact hV i (by omega)
theorem wr_trod {H : Type} {enc : TypeId × Value → H} {W : World} {base : Nat} {sp held : Bool} {fuel : Nat} {cs : List Value} {x : DataW H × List MemPlace} (h : DataW.trod enc Tryd.prog W base (fun _ => sp) held fuel 31 cs = some x) :
    ∃ (k : List UInt8) (i : Int) (g : Bool) (v : List UInt8), cs = [.string (text k), .int .i64 i, .bool g, .string (text v)] ∧ k.length ≤ maxLen ∧ IsI64 i ∧ v.length ≤ maxLen := by
  obtain ⟨xs, m, _, rfl, hl, hlen, hf⟩ := DataW.trod_struct Tryd.underlying31 h
  have h6 : Tryd.prog.cellsOf 31 = 4 := by kernel_rfl
  have h3 : Tryd.prog.cellsOf 3 = 1 := by kernel_rfl
  have h4 : Tryd.prog.cellsOf 4 = 1 := by kernel_rfl
  have h9 : Tryd.prog.cellsOf 9 = 1 := by kernel_rfl
  rw [h6] at hl
  match xs, hlen with
  | [y0, y1, y2, y3], _ =>
    have i0 := hf 0 _ rfl
    have i1 := hf 1 _ rfl
    have i2 := hf 2 _ rfl
    have i3 := hf 3 _ rfl
    match cs, hl with
    | [c0, c1, c2, c3], _ =>
      have j0 : DataW.trod enc Tryd.prog W base (fun _ => sp) held m 9 (([c0, c1, c2, c3].drop 0).take (Tryd.prog.cellsOf 9)) = some y0 := i0
      have j1 : DataW.trod enc Tryd.prog W base (fun _ => sp) held m 3 (([c0, c1, c2, c3].drop 1).take (Tryd.prog.cellsOf 3)) = some y1 := i1
      have j2 : DataW.trod enc Tryd.prog W base (fun _ => sp) held m 4 (([c0, c1, c2, c3].drop 2).take (Tryd.prog.cellsOf 4)) = some y2 := i2
      have j3 : DataW.trod enc Tryd.prog W base (fun _ => sp) held m 9 (([c0, c1, c2, c3].drop 3).take (Tryd.prog.cellsOf 9)) = some y3 := i3
      rw [h9] at j0 j3
      rw [h3] at j1
      rw [h4] at j2
      obtain ⟨k, e0, _, wk⟩ := DataW.trod_string Tryd.underlying9 j0
      obtain ⟨i, e1, _, wi⟩ := DataW.trod_int Tryd.underlying3 j1
      obtain ⟨g, e2, _⟩ := DataW.trod_bool Tryd.underlying4 j2
      obtain ⟨t, e3, _, wt⟩ := DataW.trod_string Tryd.underlying9 j3
      simp at e0 e1 e2 e3
      subst e0 e1 e2 e3
      exact ⟨k.data.toList, i, g, t.data.toList, rfl, by simpa using wk, i64_of_wf wi, by simpa using wt⟩
/-- A list of writes that came in. -/
theorem open_wrs {H : Type} {enc : TypeId × Value → H} {W : World} {a : Option Addr} {len cap : Nat} {d : DataW H} {p : List MemPlace} (h : DataW.Trod enc Tryd.prog W 0 (fun _ => true) true 27 (.slice a len cap) d p) :
    ∃ l, Wrs W a len cap l ∧ WShort l := by
  have hc : Tryd.prog.cellsOf 31 = 4 := by kernel_rfl
  obtain ⟨fuel, hf⟩ := h
  rcases open_slice Tryd.underlying27 hf with ⟨hcs, hx⟩ | ⟨x, l, c, m, n, D, Pl, hcs, _, hl, hm, hmm, hx, hcell⟩
  · simp [Value.cells] at hcs
    obtain ⟨rfl, rfl, rfl⟩ := hcs
    exact ⟨[], ⟨rfl, Nat.le_refl _, by omega, .inl rfl⟩, fun c hc => by cases hc⟩
  · simp [Value.cells] at hcs
    obtain ⟨rfl, rfl, rfl⟩ := hcs
    simp only [if_true] at hmm
    subst hmm
    rw [hc] at hcell
    have key : ∀ i, i < m → ∃ q : Wr, (∀ j u, q.arr[j]? = some u → W.cell? ((x.add (i * 4)).add j) = some u) ∧ q.k.length ≤ 9223372036854775807 ∧ q.v.length ≤ 9223372036854775807 := by
      intro i hi
      obtain ⟨cs', h1, h2⟩ := hcell i hi
      obtain ⟨_, h3l, h3⟩ := World.cells?_some h1
      obtain ⟨k', i', g', v', rfl, hk, _, hv⟩ := wr_trod (sp := true) h2
      refine ⟨⟨k', i', g', v'⟩, fun j u hj => ?_, by unfold maxLen at hk; exact hk, by unfold maxLen at hv; exact hv⟩
      have hjl : j < 4 := by
        have := (Array.getElem?_eq_some_iff.1 hj).1
        simpa [Wr.arr] using this
      have h4 := h3 j hjl
      rw [h4]
      rw [← hj]
      simp [Wr.arr]
    obtain ⟨V0, hV0⟩ := choose_at key
    obtain ⟨V, hV⟩ : ∃ V : Nat → Wr, ∀ i, i < m → ((∀ j u, (V i).arr[j]? = some u → W.cell? ((x.add (i * 4)).add j) = some u) ∧ (V i).k.length ≤ 9223372036854775807 ∧ (V i).v.length ≤ 9223372036854775807) := by
      refine ⟨fun i => (V0 i).getD Wr.zero, fun i hi => ?_⟩
      obtain ⟨q, hq, hp⟩ := hV0 i hi
      simp only [hq, Option.getD_some]
      exact hp
    have hgd : ∀ i, i < len → ((List.range len).map V).getD i Wr.zero = V i := fun i hi => by simp [List.getD, hi]
    refine ⟨(List.range len).map V, ⟨by simp, hl, by unfold maxLen at hm; omega, ?_⟩, ?_⟩
    · by_cases hz : m = 0
      · exact .inl hz
      · right
        obtain ⟨b, off, spot⟩ := x
        have h0 := (hV 0 (by omega)).1 0 _ rfl
        have hspot : spot = none := by simpa [Addr.add] using World.cell?_spot h0
        subst hspot
        refine ⟨b, off, rfl, fun i hi j u hj => ?_⟩
        rw [hgd i hi] at hj
        have hq := (hV i (by omega)).1
        have e1 : (⟨b, off, none⟩ : Addr).add (i * 4) = ⟨b, off + i * 4, none⟩ := by
          by_cases h0 : i * 4 = 0
          · rw [h0]; rfl
          · simp [Addr.add, h0]
        rw [e1] at hq
        have e2 : (⟨b, off + i * 4, none⟩ : Addr).add j = ⟨b, off + i * 4 + j, none⟩ := by
          by_cases h0 : j = 0
          · subst h0; rfl
          · simp [Addr.add, h0]
        have h5 := hq j u hj
        rw [e2] at h5
        exact h5
    · intro g hg
      obtain ⟨i, hi, rfl⟩ := List.mem_map.1 hg
      exact (hV i (by have := List.mem_range.1 hi; omega)).2
theorem change_trod {H : Type} {enc : TypeId × Value → H} {W : World} {fuel : Nat} {cs : List Value} {x : DataW H × List MemPlace} (h : DataW.trod enc Tryd.prog W 0 (fun _ => true) true fuel 29 cs = some x) :
    ∃ (site seq n s a b : Int) (ad : Option Addr) (len cap : Nat) (l : List Wr), cs = [.int .i64 site, .int .i64 seq, .int .i64 n, .int .i64 s, .int .i64 a, .int .i64 b, .slice ad len cap] ∧ Wrs W ad len cap l ∧ WShort l := by
  obtain ⟨xs, m, _, rfl, hl, hlen, hf⟩ := DataW.trod_struct Tryd.underlying29 h
  have h6 : Tryd.prog.cellsOf 29 = 7 := by kernel_rfl
  have hs : Tryd.prog.cellsOf 24 = 2 := by kernel_rfl
  have hv : Tryd.prog.cellsOf 26 = 2 := by kernel_rfl
  have h3 : Tryd.prog.cellsOf 3 = 1 := by kernel_rfl
  have hw : Tryd.prog.cellsOf 27 = 1 := by kernel_rfl
  rw [h6] at hl
  match xs, hlen with
  | [y0, y1, y2, y3, y4], _ =>
    have i0 := hf 0 _ rfl
    have i1 := hf 1 _ rfl
    have i2 := hf 2 _ rfl
    have i3 := hf 3 _ rfl
    have i4 := hf 4 _ rfl
    match cs, hl with
    | [c0, c1, c2, c3, c4, c5, c6], _ =>
      have j0 : DataW.trod enc Tryd.prog W 0 (fun _ => true) true m 3 (([c0, c1, c2, c3, c4, c5, c6].drop 0).take (Tryd.prog.cellsOf 3)) = some y0 := i0
      have j1 : DataW.trod enc Tryd.prog W 0 (fun _ => true) true m 3 (([c0, c1, c2, c3, c4, c5, c6].drop 1).take (Tryd.prog.cellsOf 3)) = some y1 := i1
      have j2 : DataW.trod enc Tryd.prog W 0 (fun _ => true) true m 24 (([c0, c1, c2, c3, c4, c5, c6].drop 2).take (Tryd.prog.cellsOf 24)) = some y2 := i2
      have j3 : DataW.trod enc Tryd.prog W 0 (fun _ => true) true m 26 (([c0, c1, c2, c3, c4, c5, c6].drop 4).take (Tryd.prog.cellsOf 26)) = some y3 := i3
      have j4 : DataW.trod enc Tryd.prog W 0 (fun _ => true) true m 27 (([c0, c1, c2, c3, c4, c5, c6].drop 6).take (Tryd.prog.cellsOf 27)) = some y4 := i4
      rw [h3] at j0 j1
      rw [hs] at j2
      rw [hv] at j3
      rw [hw] at j4
      obtain ⟨site, e0, _, _⟩ := DataW.trod_int Tryd.underlying3 j0
      obtain ⟨seq, e1, _, _⟩ := DataW.trod_int Tryd.underlying3 j1
      obtain ⟨n, s, e2, _, _⟩ := stamp_cells (sp := true) j2
      obtain ⟨a, b, e3, _, _⟩ := vec_cells j3
      have hvv : ∃ a len cap, c6 = .slice a len cap := by
        rcases open_slice Tryd.underlying27 j4 with ⟨hcs, hx⟩ | ⟨x, l, c, m, n, D, Pl, hcs, _⟩
        · simp at hcs; exact ⟨_, _, _, hcs⟩
        · simp at hcs; exact ⟨_, _, _, hcs⟩
      obtain ⟨ad, len, cap, rfl⟩ := hvv
      obtain ⟨l, h1, h2⟩ := open_wrs (d := y4.1) (p := y4.2) (W := W) (enc := enc) (a := ad) (len := len) (cap := cap) ⟨m, j4⟩
      simp at e0 e1 e2 e3
      obtain ⟨rfl, rfl⟩ := e2
      obtain ⟨rfl, rfl⟩ := e3
      subst e0 e1
      exact ⟨site, seq, n, s, a, b, ad, len, cap, l, rfl, h1, h2⟩
/-- A change that came in. -/
theorem open_change {H : Type} {enc : TypeId × Value → H} {W : World} {base : Nat} {v : Value} {x : DataW H} {p : List MemPlace} (hv : Value.okWide Tryd.prog W .any base 29 v)
    (h : DataW.Trod enc Tryd.prog W 0 (fun _ => true) true 29 v x p) : ∃ (site seq n s a b : Int) (ad : Option Addr) (len cap : Nat) (l : List Wr), v = .agg #[.int .i64 site, .int .i64 seq, .int .i64 n, .int .i64 s, .int .i64 a, .int .i64 b, .slice ad len cap] ∧ Wrs W ad len cap l ∧ WShort l := by
  simp only [Value.okWide, Tryd.underlying29] at hv
  obtain ⟨cs, rfl, hs, _⟩ := hv
  obtain ⟨m, hm⟩ := h
  obtain ⟨site, seq, n, s, a, b, ad, len, cap, l, hc, h1, h2⟩ := change_trod hm
  refine ⟨site, seq, n, s, a, b, ad, len, cap, l, ?_, h1, h2⟩
  congr 1
  apply Array.toList_inj.1
  exact hc
/-- A write that came in. -/
theorem open_write {H : Type} {enc : TypeId × Value → H} {W : World} {base : Nat} {v : Value} {x : DataW H} {p : List MemPlace} (hv : Value.okWide Tryd.prog W .any base 31 v)
    (h : DataW.Trod enc Tryd.prog W 0 (fun _ => true) true 31 v x p) : ∃ (k : List UInt8) (i : Int) (g : Bool) (t : List UInt8), v = .agg #[.string (text k), .int .i64 i, .bool g, .string (text t)] ∧ k.length ≤ 9223372036854775807 ∧ IsI64 i ∧ t.length ≤ 9223372036854775807 := by
  simp only [Value.okWide, Tryd.underlying31] at hv
  obtain ⟨cs, rfl, hs, _⟩ := hv
  obtain ⟨m, hm⟩ := h
  obtain ⟨k, i, g, t, hc, h1, h2, h3⟩ := wr_trod (sp := true) hm
  refine ⟨k, i, g, t, ?_, by unfold maxLen at h1; exact h1, h2, by unfold maxLen at h3; exact h3⟩
  congr 1
  apply Array.toList_inj.1
  exact hc
end Go.Proofs.YtfkmfccdhmnllaaDoor
end

section
namespace Go.Proofs.YtfkmfccdhmnllaaDoor
open Go.RowKit
set_option maxRecDepth 100000

theorem gTab : Tryd.prog.globalNamed "math/bits.deBruijn64tab" = some 1 := by kernel_rfl
theorem gTabType : (Tryd.prog.globals[1]?).map (·.type) = some 194 := by kernel_rfl
theorem cells48 : Tryd.prog.cellsOf 194 = 64 := by kernel_rfl
theorem cells5 : Tryd.prog.cellsOf 5 = 1 := by kernel_rfl

def tab64 : List Int := [0, 1, 56, 2, 57, 49, 28, 3, 61, 58, 42, 50, 38, 29, 17, 4, 62, 47, 59, 36, 45, 43, 51, 22, 53, 39, 33, 30, 24, 18, 12, 5, 63, 55, 48, 27, 60, 41, 37, 16, 46, 35, 44, 21, 52, 32, 23, 11, 54, 26, 40, 15, 34, 20, 31, 10, 25, 14, 19, 9, 13, 8, 7, 6]
def tab32 : List Int := [0, 1, 28, 2, 29, 14, 24, 3, 30, 22, 20, 15, 25, 17, 4, 8, 31, 27, 13, 23, 21, 19, 16, 7, 26, 12, 18, 6, 11, 5, 10, 9]

theorem tabW_of_laid {W : World} (h1 : laidMet Tryd.prog [("math/bits.deBruijn32tab", Rows.laid_math_bits_deBruijn32tab), ("math/bits.deBruijn64tab", Rows.laid_math_bits_deBruijn64tab)] W) : TabW W := by
  have h2 := h1.tail
  have T : Lib.TabIs Tryd.prog W "math/bits.deBruijn64tab" .u8 tab64 := Lib.tabIs_of_head (rest := []) gTab gTabType Tryd.underlying194 Tryd.underlying5 cells5 cells48 h2
  exact ⟨T.cell gTab 0 (by decide), T.cell gTab 1 (by decide), T.cell gTab 3 (by decide), T.cell gTab 7 (by decide)⟩

end Go.Proofs.YtfkmfccdhmnllaaDoor
end

