/-
  Merged: WX1 WX2 WX3 WX4 WK2.
-/
import Derived.WalkKit
import Derived.Laws.CopyOwn
import Derived.WalkSmall
import Derived.Deep.QuietTactic
import Derived.StillTail
import Derived.Lib.QuietBelow
import Derived.Test.YtioeimkaljmffaaGreatDoorRows
import Derived.Lib.Hide
import Derived.BigQuiet
import Derived.BigRegion
import Derived.Deep.Cut
import Derived.Deep.MidRow
import Derived.Great.BuildSlice
import Derived.Outline
import Derived.OwnWalk
import Derived.Laws.Rows
import Derived.ChangeKeysEq
import Derived.Laws.StructEq
import Derived.Deep.DeepAppendWide
import Derived.Deep.AppendSrc
import Derived.Maps.RangeWalk
import Derived.Maps.OwnSet
import Derived.Maps.OwnOps
import Derived.Lib.MinMax
import Derived.Deep.RegionWith
import Derived.Maps.AppendAt
import Derived.Shelf.Abstract
import Derived.Lib.ConvBytes
import Derived.Lib.SlBytesConst
import Derived.WalkSpells
import Derived.WalkLawsBesides
import Derived.Lib.LaidTab
import Derived.Stop.LaidErr
import Derived.Lib.ItoaNum
import Derived.Shelf.Strings.Builder1
import Derived.Shelf.Strings.Builder2
import Derived.Shelf.Strings.BuilderF
import Derived.Shelf.Strconv.Atoi
import Derived.Shelf.Strconv.Itoa0
import Derived.Shelf.Strconv.Itoa1
import Derived.Shelf.LaysM
import Derived.Shelf.Strconv.Itoa2
import Derived.Shelf.Strconv.Itoa3
import Derived.Shelf.Strconv.AtoiErrFast
import Derived.Shelf.Strconv.ParseIntEmpty
import Derived.Shelf.Strconv.AtoiFail
import Derived.Shelf.Strconv.Clone
import Derived.Shelf.Strconv.SyntaxError
import Derived.Shelf.LaysC
import Derived.Shelf.Strconv.ToError
import Derived.Shelf.Strconv.Lower
import Derived.Shelf.Strconv.ParseUint10
import Derived.Shelf.Strconv.ParseUint10Empty
import Derived.Shelf.Strconv.ParseUint10Any
import Derived.Shelf.Strconv.ParseInt10
import Derived.Shelf.Strconv.AtoiLong
import Derived.Shelf.Strconv.AtoiInnerAll
import Derived.Shelf.Strconv.RangeError
import Derived.Shelf.Strconv.ToErrorRange
import Derived.Shelf.Strconv.AtoiAll
import Derived.Shelf.Strconv.ErrVarAll
import Derived.Shelf.Strings.Prefix
import Derived.Shelf.Bits.Mul64
import Derived.Shelf.Strings.Repeat
import Derived.Test.YtioeimkaljmffaaGreatDoorProg
import Derived.Lib.AtoiTie
import Derived.Lib.AtoiAll
import Derived.Lib.ItoaMem
import Derived.Lib.ItoaLen
import Derived.Lib.AtoiErrMem
import Derived.Lib.AtoiAllCases
import Derived.WideShapes
import Derived.OpenShut
import Derived.ChangeSlices
import Derived.Deep.RegionLaw
import Derived.Deep.RegionHeld3
import Derived.Shelf.Sort.Plain
import Derived.Shelf.Slices.In.SortNone
import Derived.Sort.OwnSorted
import Derived.Sort.KeysCollected
import Derived.Deep.Slices
import Derived.RangeFuncNested
import Derived.RangeFuncBound
import Derived.RangeFuncCalls
import Derived.RangeFuncLeaves
import Derived.OwnWalkIn
import Derived.TacticsInMore
import Derived.LoopNIn
import Derived.LoopIn
import Derived.Shelf.Small.Bits
import Derived.Ground.Names2Prog
import Derived.Shelf.Slices.Delete
import Derived.Shelf.Slices.Cells
import Derived.Shelf.Slices.Empties
import Derived.Deep.Matrix
import Derived.Test.YtioeimkaljmffaaGreatDoorSX1

section
namespace Go.Proofs.YtioeimkaljmffaaGreatDoor
open Go.RowKit Go Go.Sort Go.Maps Go.WideMaps
set_option linter.unusedVariables false
set_option maxRecDepth 20000

/-- A log and its disk, apart, laid since w0; what X holds of is kept as in V, and apart too. -/
def Wx (X : Nat → Prop) (V w0 : World) (q p : Nat) (st : Ds) (g : Lg) (W : World) : Prop := ∃ F G, Dk W q st F ∧ Lk W p q g G ∧ (∀ k, F k → ¬ G k) ∧ (∀ k, F k → w0.heap.size ≤ k) ∧ (∀ k, G k → w0.heap.size ≤ k) ∧ Below w0.heap.size w0 W ∧ ∀ k, X k → ¬ F k ∧ ¬ G k ∧ k < W.heap.size ∧ W.heap[k]? = V.heap[k]?
section
variable {Xp : Nat → Prop} {Vw w0 W W' : World} {q p : Nat} {st st' : Ds} {g g' : Lg}
theorem Wx.wg (h : Wx Xp Vw w0 q p st g W) : Wg w0 q p st g W := by obtain ⟨F, G, h1, h2, h3, h4, h5, h6, -⟩ := h; exact ⟨F, G, h1, h2, h3, h4, h5, h6⟩
theorem Wx.b (h : Wx Xp Vw w0 q p st g W) : Below w0.heap.size w0 W := h.wg.b
theorem Wx.cs (h : Wx Xp Vw w0 q p st g W) : ∃ bv, LogIn W p q bv g := h.wg.cs
theorem Wx.below (h : Wx Xp Vw w0 q p st g W) (hb : Below W.heap.size W W') : Wx Xp Vw w0 q p st g W' := by
  obtain ⟨F, G, hd, hr, h1, h2, h3, hb0, hx⟩ := h
  exact ⟨F, G, wdk_keep hd (fun k hk => hb.block k (wdk_lt hd hk)), hr.below hb, h1, h2, h3, hb0.trans (hb.mono hb0.size), fun k hk => by
    obtain ⟨a1, a2, a3, a4⟩ := hx k hk
    exact ⟨a1, a2, Nat.lt_of_lt_of_le a3 hb.size, (hb.block k a3).trans a4⟩⟩
theorem Wx.kept (h : Wx Xp Vw w0 q p st g W) (k : Nat) (hk : Xp k) : k < W.heap.size ∧ W.heap[k]? = Vw.heap[k]? := by
  obtain ⟨F, G, -, -, -, -, -, -, hx⟩ := h; exact (hx k hk).2.2
theorem wx_of {w1 : World} {F G : Nat → Prop} (h2 : ∀ k, F k → w0.heap.size ≤ k) (h3 : ∀ k, G k → w0.heap.size ≤ k) (hb : Below w0.heap.size w0 w1) (hx : ∀ k, Xp k → ¬ F k ∧ ¬ G k ∧ k < w1.heap.size ∧ w1.heap[k]? = Vw.heap[k]?) (h : Lw w1 F G q p st g W) : Wx Xp Vw w0 q p st g W := by
  obtain ⟨⟨F', G', hd, hr, h1, h4, h5⟩, ht⟩ := h
  exact ⟨F', G', hd, hr, h1, fun k hk => (h4 k hk).elim (h2 k) (fun h => Nat.le_trans hb.size h), fun k hk => (h5 k hk).elim (h3 k) (fun h => Nat.le_trans hb.size h), hb.trans (ht.base hb.size (fun k hk => hk.elim (h2 k) (h3 k))), fun k hk => by
    obtain ⟨a1, a2, a3, a4⟩ := hx k hk
    refine ⟨fun h => (h4 k h).elim a1 (fun h => by omega), fun h => (h5 k h).elim a2 (fun h => by omega), Nat.lt_of_lt_of_le a3 ht.size, (ht.block k a3 fun h => h.elim a1 a2).trans a4⟩⟩
end
set_option maxHeartbeats 1600000 in
theorem lsync_x {Xp : Nat → Prop} {Vw w0 W : World} {q p n : Nat} {st : Ds} {g : Lg} (h : Wx Xp Vw w0 q p st g W) (hg : GOk g n) (hT : TabE w0) : Calls Tryz.prog 18 #[.pointer (some ⟨p, 0, none⟩)] W (fun e W' => e = .returned (.int .i64 (snyL st g).1) ∧ Wx Xp Vw w0 q p (snyL st g).2.1 (snyL st g).2.2 W') := by
  have HR := Lib.hid (lready_c h.wg)
  have HG := Lib.hid h
  unfold snyL
  by_cases hf : st.fails = g.fails
  · rw [if_neg (not_not_intro hf)]
    rw [if_pos hf] at HR
    have HS := Lib.hid (fun (W' : World) (hb : Below W.heap.size W W') => (show Calls Tryz.prog 56 #[.pointer (some ⟨p, 0, none⟩)] W' (fun e W'' => e = .returned (.int .i64 (syncL st g).1) ∧ Wx Xp Vw w0 q p (syncL st g).2.1 (syncL st g).2.2 W'') from by
      have hw := h.below hb
      have hbb := hw.b
      obtain ⟨F, G, hd, hr, h1, h2, h3, hb0, hx⟩ := hw
      have hl := hg.last
      exact (lsync_p (Lw.start hd hr h1) hg.ne (hT.i.grown hbb) (by omega) (by omega) hg.nx.1 (by have := hg.nx; omega)).mono fun e W'' ⟨he, hw2⟩ => ⟨he, wx_of h2 h3 hb0 hx hw2⟩))
    obtain ⟨⟨r1, s1, g1⟩, hr⟩ : ∃ z, syncL st g = z := ⟨_, rfl⟩
    rw [hr] at HS ⊢
    simp only at HS ⊢
    clear h hg hT hf hr
    go_enter Tryz.func18, Tryz.ntmps18
    go_wp2_with (first
      | (go_at_call 51; (with_reducible refine HR.out.mono ?_); rintro e1 w1 ⟨rfl, hb1⟩; have HB1 := Lib.hid hb1; clear hb1)
      | (go_at_call 56; (with_reducible refine (HS.out _ HB1.out).mono ?_); rintro e2 w2 ⟨rfl, hw2⟩; have HW2 := Lib.hid hw2; clear hw2))
    go_ret
    exact ⟨rfl, HW2.out⟩
  · rw [if_pos hf]
    rw [if_neg hf] at HR
    clear h hg hT hf
    go_enter Tryz.func18, Tryz.ntmps18
    go_wp2_with (go_at_call 51; (with_reducible refine HR.out.mono ?_); rintro e1 w1 ⟨rfl, hb1⟩; have HB1 := Lib.hid hb1; clear hb1)
    go_ret
    exact ⟨rfl, HG.out.below HB1.out⟩
set_option maxRecDepth 100000 in
set_option maxHeartbeats 12800000 in
theorem lappend_x {Xp : Nat → Prop} {Vw w0 W : World} {q p n : Nat} {st : Ds} {g : Lg} (h : Wx Xp Vw w0 q p st g W) (hg : GOk g n) (hn : n ≤ 90000) (hT : TabE w0) {a : Option Addr} {m cap : Nat} {l : List UInt8} (hb : Bys W a m cap l) (hm : m ≤ 100000) : Calls Tryz.prog 17 #[.pointer (some ⟨p, 0, none⟩), .slice a m cap] W (fun e W' => e = .returned (.tuple #[.int .i64 (appL st g l).1.1, .int .i64 (appL st g l).1.2]) ∧ Wx Xp Vw w0 q p (appL st g l).2.1 (appL st g l).2.2 W') := by
  have HR := Lib.hid (lready_c h.wg)
  have HG := Lib.hid h
  have HK := Lib.hid hg
  have HTE := Lib.hid hT
  have HN := Lib.hid hn
  have HBY := Lib.hid hb
  have HM := Lib.hid hm
  have hml : ¬ (262144 : Int) < (m : Int) := by omega
  unfold appL
  by_cases hf : st.fails = g.fails
  · rw [if_neg (not_not_intro hf)]
    rw [if_pos hf] at HR
    by_cases hnx : 999999999999 ≤ g.next
    · rw [if_pos hnx]
      clear h hg hn hT hb hm hf
      go_enter Tryz.func17, Tryz.ntmps17
      go_wp2_with ((go_at_call 51; (with_reducible refine HR.out.mono ?_); rintro e1 w1 ⟨rfl, hb1⟩; have HB1 := Lib.hid hb1; obtain ⟨bv, hl1⟩ := (HG.out.below hb1).cs; obtain ⟨c0, c1, c2, c3, c4, c5, c6⟩ := hl1.cs; clear hb1 hl1))
      go_ret2
      exact ⟨rfl, HG.out.below HB1.out⟩
    · rw [if_neg hnx]
      have hwl : (wrapS l).length ≤ 200000 := wrapS_len200 l (by rw [hb.len]; exact hm)
      have HNX := Lib.hid (show g.next < 999999999999 by omega)
      have HWR := Lib.hid (fun (W' : World) (hbw : Below W.heap.size W W') => wrap_c (hb.below hbw) hm (hT.i.b.below (h.b.trans (hbw.mono h.b.size))))
      obtain ⟨f, hfd⟩ : ∃ z, wrapS l = z := ⟨_, rfl⟩
      rw [hfd] at HWR hwl ⊢
      obtain ⟨fl, hfl⟩ : ∃ z, f.length = z := ⟨_, rfl⟩
      have HFL := Lib.hid hfl
      rw [hfl] at hwl ⊢
      have HWL := Lib.hid hwl
      have hsz := hg.sz
      have hmo := hg.mo
      have HA := Lib.hid (show appT st g fl = if g.lastN < g.next ∧ g.most < g.size + (fl : Int) then turnL st g else (0, st, g) from rfl)
      obtain ⟨T, hTT⟩ : ∃ z, appT st g fl = z := ⟨_, rfl⟩
      rw [hTT] at HA ⊢
      obtain ⟨R, hRR⟩ : ∃ z, (if T.1 ≠ 0 then ((0, errR T.1), T.2.1, T.2.2) else putR (putL T.2.1 T.2.2 f)) = z := ⟨_, rfl⟩
      rw [hRR]
      have HRR := Lib.hid hRR
      clear hRR
      have HGT := Lib.hid (hg.turn st)
      have HTN := Lib.hid (turnL_next st g)
      obtain ⟨hd9, hhd⟩ : ∃ z, decide (g.lastN < g.next) = z := ⟨_, rfl⟩
      obtain ⟨he9, hhe⟩ : ∃ z, decide (g.most < g.size + (fl : Int)) = z := ⟨_, rfl⟩
      have HDE := Lib.hid (And.intro hhd hhe)
      have hws : IntKind.i64.wrap (g.size + (fl : Int)) = g.size + (fl : Int) := by rw [IntKind.wrap_i64]; omega
      have hnx0 := hg.nx
      have HBZ := Lib.hid (show 0 ≤ g.size ∧ g.size ≤ 1000000000000 from by omega)
      obtain ⟨F, G, hd, hr, hdj, hF, hG, hb0, hx⟩ := h
      have HXP := Lib.hid hx
      clear hx
      have HD0 := Lib.hid hd
      have HR0 := Lib.hid hr
      have HDJ := Lib.hid hdj
      have HFG := Lib.hid (And.intro hF (And.intro hG hb0))
      have HLST := Lib.hid hg.last
      clear hd hr hdj hF hG hb0 hg hn hT hb hm hf hfd hfl hTT hwl hsz hmo hnx0
      go_enter Tryz.func17, Tryz.ntmps17
      go_upto_region 9 with (first
        | (go_at_call 51; (with_reducible refine HR.out.mono ?_); rintro e1 w1 ⟨rfl, hb1⟩; have HB1 := Lib.hid hb1; obtain ⟨bv, hl1⟩ := (HG.out.below hb1).cs; obtain ⟨c0, c1, c2, c3, c4, c5, c6⟩ := hl1.cs; clear hb1 hl1)
        | (go_at_call 52; (with_reducible refine (HWR.out _ HB1.out).mono ?_); rintro e2 w2 ⟨ov, rfl, ho2, hb2⟩; have HO2 := Lib.hid ho2; have HB2 := Lib.hid (HB1.out.trans (hb2.mono HB1.out.size)); obtain ⟨oa, oc, hov, hoy⟩ := ho2.bys; rw [HFL.out] at hov hoy; subst hov; have HOY := Lib.hid hoy; clear ho2 hb2 hoy))
      clear c0 c1 c2 c3 c4 c5 c6
      have HLW := Lib.hid (Lw.start (wdk_keep HD0.out fun k hk => HB2.out.block k (wdk_lt HD0.out hk)) (HR0.out.below HB2.out) HDJ.out)
      have HOA := Lib.hid (show 0 < fl → ∀ b off, oa = some ⟨b, off, none⟩ → b < w2.heap.size ∧ ¬ F b ∧ ¬ G b from fun h0 b off e => by
        have h3 : w1.heap.size ≤ b ∧ b < w2.heap.size := by
          rcases HO2.out.2 with ⟨e9, -⟩ | ⟨g9, c9, cur9, e9, hB9, hg9, -⟩
          · injection e9 with e1
            rw [e1] at e; cases e
          · injection e9 with e1
            rw [e1] at e
            injection e with e
            injection e with e4 e5
            subst e4
            exact ⟨hB9, (Array.getElem?_eq_some_iff.1 hg9).1⟩
        have h4 := HB1.out.size
        exact ⟨h3.2, fun hf => by have := wdk_lt HD0.out hf; omega, fun hf => by have := HR0.out.lt hf; omega⟩)
      have HWGo := Lib.hid (fun (st' : Ds) (g' : Lg) (W' : World) (hw : Lw w2 F G q p st' g' W') => wx_of HFG.out.1 HFG.out.2.1 (HFG.out.2.2.trans (HB2.out.mono HFG.out.2.2.size)) (fun k hk => by obtain ⟨a1, a2, a3, a4⟩ := HXP.out k hk; exact ⟨a1, a2, Nat.lt_of_lt_of_le a3 HB2.out.size, (HB2.out.block k a3).trans a4⟩) hw)
      have HTW := Lib.hid (fun (W' : World) (ht : Trn (fun k => F k ∨ G k) w2 W') => HTE.out.i.grown ((HFG.out.2.2.trans (HB2.out.mono HFG.out.2.2.size)).trans (ht.base (HFG.out.2.2.trans (HB2.out.mono HFG.out.2.2.size)).size (fun k hk => hk.elim (HFG.out.1 k) (HFG.out.2.1 k)))))
      have HHO := Lib.hid (fun (W' : World) (hbw : Below w2.heap.size w2 W') => (show Calls Tryz.prog 53 #[.pointer (some ⟨p, 0, none⟩)] W' (Tells (.bool hd9) W') from by
        obtain ⟨bv', hl'⟩ := (HLW.out.below hbw).cs
        have := lholds_c hl' HK.out.ne
        rw [show g.B.getD (g.B.length - 1) 0 = g.lastN from rfl, HDE.out.1] at this
        exact this))
      cases hd9
      · refine wp_region_flow [none, none, none, none, none, none, none, none, none, none, none, none, none, none, none, none, none, none, none, none, none, none, none, none, none, none, none, some 0, some 1, some 2, some 3, some 4, some 5, some 6, some 7, some 8, some 9, some 10, some 11, some 12, some 13, some 14, some 15, some 16, some 17, some 18, none, none, none, none, none, none, none, none, none, none, none, none, none, none, none, none, none, none, none, none, none, none, none] (fun i => [undef, undef, undef, undef, undef, undef, undef, undef, undef, undef, undef, undef, undef, undef, undef, undef, undef, undef, undef].getD i undef) [(fun v _ => v = .pointer (some ⟨p, 0, none⟩)), (fun v _ => v = .pointer (some ⟨p, 0, none⟩)), (fun v _ => v = .pointer (some ⟨p, 0, none⟩)), (fun v _ => v = .bool false), (fun v _ => v = .bool false), (fun v _ => v = undef), (fun v _ => v = undef), (fun v _ => v = undef), (fun v _ => v = undef), (fun v _ => v = undef), (fun v _ => v = undef), (fun v _ => v = undef), (fun v _ => v = undef), (fun v _ => v = undef), (fun v _ => v = undef), (fun v _ => v = undef), (fun v _ => v = undef), (fun v _ => v = undef), (fun v _ => v = .bool false)] (by kernel_rfl) (by kernel_rfl) rfl rfl rfl ?_ ?_ ?_
        · intro g hg v X Y hX hY hv
          simp only [List.mem_cons, List.not_mem_nil, or_false] at hg
          rcases hg with rfl | rfl | rfl | rfl | rfl | rfl | rfl | rfl | rfl | rfl | rfl | rfl | rfl | rfl | rfl | rfl | rfl | rfl | rfl
          all_goals first
            | exact hv
            | exact hv.kept hY
        · simp only [flowOps, and_true]
          refine ⟨?_, ?_, ?_, ?_, ?_, ?_, ?_, ?_, ?_, ?_, ?_, ?_, ?_, ?_, ?_, ?_, ?_, ?_, ?_⟩
          · intro xs W9 hW hn9
            simp only [flowAct, List.zipWith_cons_cons, List.zipWith_nil_left]
            go_wp2_with (fail)
            exact ⟨rfl, _, rfl, Below.refl _ _, by first | rfl | simp⟩
          · intro xs W9 hW hn9
            simp [flowNeeds, Region.binds] at hn9
            simp only [flowAct, List.zipWith_cons_cons, List.zipWith_nil_left]
            try simp only [hn9]
            go_wp2_with (fail)
            exact ⟨rfl, _, rfl, Below.refl _ _, by first | rfl | simp⟩
          · intro xs W9 hW hn9
            simp [flowNeeds, Region.binds] at hn9
            simp only [flowAct, List.zipWith_cons_cons, List.zipWith_nil_left]
            try simp only [hn9]
            go_wp2_with (fail)
            exact ⟨rfl, _, rfl, Below.refl _ _, by first | rfl | simp⟩
          · intro xs W9 hW hn9
            simp [flowNeeds, Region.binds] at hn9
            simp only [flowAct, List.zipWith_cons_cons, List.zipWith_nil_left]
            try simp only [hn9]
            go_wp2_with (go_at_call 53; (with_reducible refine (HHO.out _ hW).mono ?_); rintro e9 w9 ⟨rfl, hb9⟩)
            exact ⟨rfl, _, rfl, hb9, rfl⟩
          · intro xs W9 hW hn9
            simp [flowNeeds, Region.binds] at hn9
            simp only [flowAct, List.zipWith_cons_cons, List.zipWith_nil_left]
            try simp only [hn9]
            go_wp2_with (fail)
            exact ⟨rfl, _, rfl, Below.refl _ _, by first | rfl | simp⟩
          · intro xs W9 hW hn9
            simp [flowNeeds, Region.binds] at hn9
            simp only [flowAct, List.zipWith_cons_cons, List.zipWith_nil_left]
            try simp only [hn9]
            go_wp2_with (fail)
            exact ⟨rfl, _, rfl, Below.refl _ _, by first | rfl | simp⟩
          · intro xs W9 hW hn9
            simp [flowNeeds, Region.binds] at hn9
            simp only [flowAct, List.zipWith_cons_cons, List.zipWith_nil_left]
            try simp only [hn9]
            go_wp2_with (fail)
            exact ⟨rfl, _, rfl, Below.refl _ _, by first | rfl | simp⟩
          · intro xs W9 hW hn9
            simp [flowNeeds, Region.binds] at hn9
            simp only [flowAct, List.zipWith_cons_cons, List.zipWith_nil_left]
            try simp only [hn9]
            go_wp2_with (fail)
            exact ⟨rfl, _, rfl, Below.refl _ _, by first | rfl | simp⟩
          · intro xs W9 hW hn9
            simp [flowNeeds, Region.binds] at hn9
            simp only [flowAct, List.zipWith_cons_cons, List.zipWith_nil_left]
            try simp only [hn9]
            go_wp2_with (fail)
            exact ⟨rfl, _, rfl, Below.refl _ _, by first | rfl | simp⟩
          · intro xs W9 hW hn9
            simp [flowNeeds, Region.binds] at hn9
            simp only [flowAct, List.zipWith_cons_cons, List.zipWith_nil_left]
            try simp only [hn9]
            go_wp2_with (fail)
            exact ⟨rfl, _, rfl, Below.refl _ _, by first | rfl | simp⟩
          · intro xs W9 hW hn9
            simp [flowNeeds, Region.binds] at hn9
            simp only [flowAct, List.zipWith_cons_cons, List.zipWith_nil_left]
            try simp only [hn9]
            go_wp2_with (fail)
            exact ⟨rfl, _, rfl, Below.refl _ _, by first | rfl | simp⟩
          · intro xs W9 hW hn9
            simp [flowNeeds, Region.binds] at hn9
            simp only [flowAct, List.zipWith_cons_cons, List.zipWith_nil_left]
            try simp only [hn9]
            go_wp2_with (fail)
            exact ⟨rfl, _, rfl, Below.refl _ _, by first | rfl | simp⟩
          · intro xs W9 hW hn9
            simp [flowNeeds, Region.binds] at hn9
            simp only [flowAct, List.zipWith_cons_cons, List.zipWith_nil_left]
            try simp only [hn9]
            go_wp2_with (fail)
            exact ⟨rfl, _, rfl, Below.refl _ _, by first | rfl | simp⟩
          · intro xs W9 hW hn9
            simp [flowNeeds, Region.binds] at hn9
            simp only [flowAct, List.zipWith_cons_cons, List.zipWith_nil_left]
            try simp only [hn9]
            go_wp2_with (fail)
            exact ⟨rfl, _, rfl, Below.refl _ _, by first | rfl | simp⟩
          · intro xs W9 hW hn9
            simp [flowNeeds, Region.binds] at hn9
            simp only [flowAct, List.zipWith_cons_cons, List.zipWith_nil_left]
            try simp only [hn9]
            go_wp2_with (fail)
            exact ⟨rfl, _, rfl, Below.refl _ _, by first | rfl | simp⟩
          · intro xs W9 hW hn9
            simp [flowNeeds, Region.binds] at hn9
            simp only [flowAct, List.zipWith_cons_cons, List.zipWith_nil_left]
            try simp only [hn9]
            go_wp2_with (fail)
            exact ⟨rfl, _, rfl, Below.refl _ _, by first | rfl | simp⟩
          · intro xs W9 hW hn9
            simp [flowNeeds, Region.binds] at hn9
            simp only [flowAct, List.zipWith_cons_cons, List.zipWith_nil_left]
            try simp only [hn9]
            go_wp2_with (fail)
            exact ⟨rfl, _, rfl, Below.refl _ _, by first | rfl | simp⟩
          · intro xs W9 hW hn9
            simp [flowNeeds, Region.binds] at hn9
            simp only [flowAct, List.zipWith_cons_cons, List.zipWith_nil_left]
            try simp only [hn9]
            go_wp2_with (fail)
            exact ⟨rfl, _, rfl, Below.refl _ _, by first | rfl | simp⟩
          · intro xs W9 hW hn9
            simp [flowNeeds, Region.binds] at hn9
            simp only [flowAct, List.zipWith_cons_cons, List.zipWith_nil_left]
            try simp only [hn9]
            go_wp2_with (fail)
            exact ⟨rfl, _, rfl, Below.refl _ _, by first | rfl | simp⟩
        · intro xs W9 hW hall
          simp only [flowAll, and_true, Nat.zero_add, Nat.reduceAdd] at hall
          obtain ⟨a0, a1, a2, a3, a4, a5, a6, a7, a8, a9, a10, a11, a12, a13, a14, a15, a16, a17, a18⟩ := hall
          simp only [flowAct, List.zipWith_cons_cons, List.zipWith_nil_left]
          simp only [a18]
          clear a0 a1 a2 a3 a4 a5 a6 a7 a8 a9 a10 a11 a12 a13 a14 a15 a16 a17 a18
          have HLW2 := Lib.hid (HLW.out.below hW)
          clear hW
          have HTE0 := Lib.hid (show T = (0, st, g) from by rw [HA.out, if_neg (fun h => by have := HDE.out.1; simp at this; omega)])
          obtain ⟨⟨r2, s2, g2⟩, hpr⟩ : ∃ z, putL st g f = z := ⟨_, rfl⟩
          have HPU := Lib.hid (lput_p HLW2.out HK.out.ne (HTW.out _ HLW2.out.tr) (by have := HLST.out; omega) (by have := HLST.out; omega) (by have := HK.out.nx; omega) (by have := HK.out.nx; omega) (by have := HBZ.out; omega) (by have := HBZ.out; omega) HOY.out (by have := HFL.out; have := HWL.out; omega) HOA.out)
          rw [hpr] at HPU
          simp only at HPU
          have HPN := Lib.hid (show putL st g f = (r2, s2, g2) from hpr)
          have HG2 := Lib.hid (show 0 ≤ g2.next ∧ g2.next ≤ 2000000000000 from by
            have h9 := (HK.out).put st (f := f) (by have := HFL.out; have := HWL.out; omega) (by exact HNX.out)
            rw [hpr] at h9
            exact h9.nx)
          clear hpr
          by_cases hr2 : r2 = 0
          · subst hr2
            have hnx2 := HG2.out
            go_wp2_with (go_at_call 55; (with_reducible refine HPU.out.mono ?_); rintro e7 w7 ⟨rfl, hl7⟩; have HL7 := Lib.hid hl7; obtain ⟨bv7, hl9⟩ := hl7.cs; obtain ⟨c0, c1, c2, c3, c4, c5, c6⟩ := hl9.cs; clear hl7 hl9)
            go_ret2
            rw [← HRR.out, HTE0.out]
            simp only [ne_eq, not_true_eq_false, if_false, HPN.out, putR, if_true]
            exact ⟨by first | rfl | (congr 4; rw [IntKind.wrap_i64]; omega) | go_num, HWGo.out _ _ _ HL7.out⟩
          · have hrb : (r2 == 0) = false := by rw [beq_eq_false_iff_ne]; exact hr2
            by_cases hr3 : r2 = 3
            · subst hr3
              go_wp2_with (go_at_call 55; (with_reducible refine HPU.out.mono ?_); rintro e7 w7 ⟨rfl, hl7⟩; have HL7 := Lib.hid hl7; clear hl7)
              go_ret2
              rw [← HRR.out, HTE0.out]
              simp only [ne_eq, not_true_eq_false, if_false, HPN.out, putR]
              exact ⟨by first | rfl | simp [errR], by simpa [errR] using HWGo.out _ _ _ HL7.out⟩
            · have hrb3 : (r2 == 3) = false := by rw [beq_eq_false_iff_ne]; exact hr3
              have HR2 := Lib.hid (And.intro hr2 hr3)
              go_wp2_with (go_at_call 55; (with_reducible refine HPU.out.mono ?_); rintro e7 w7 ⟨rfl, hl7⟩; have HL7 := Lib.hid hl7; clear hl7)
              go_ret2
              rw [← HRR.out, HTE0.out]
              simp only [ne_eq, not_true_eq_false, if_false, HPN.out, putR, if_neg HR2.out.1]
              exact ⟨by unfold errR; rw [if_neg HR2.out.2]; rfl, HWGo.out _ _ _ HL7.out⟩
  
      · refine wp_region_flow [none, none, none, none, none, none, none, none, none, none, none, none, none, none, none, none, none, none, none, none, none, none, none, none, none, none, none, some 0, some 1, some 2, some 3, some 4, some 5, some 6, some 7, some 8, some 9, some 10, some 11, some 12, some 13, some 14, some 15, some 16, some 17, some 18, none, none, none, none, none, none, none, none, none, none, none, none, none, none, none, none, none, none, none, none, none, none, none] (fun i => [undef, undef, undef, undef, undef, undef, undef, undef, undef, undef, undef, undef, undef, undef, undef, undef, undef, undef, undef].getD i undef) [(fun v _ => v = .pointer (some ⟨p, 0, none⟩)), (fun v _ => v = .pointer (some ⟨p, 0, none⟩)), (fun v _ => v = .pointer (some ⟨p, 0, none⟩)), (fun v _ => v = .bool true), (fun v _ => v = .bool true), (fun v _ => v = .pointer (some ⟨p, 0, none⟩)), (fun v _ => v = .pointer (some ⟨p, 0, none⟩)), (fun v _ => v = .pointer (some ⟨p, 0, none⟩)), (fun v _ => v = .pointer (some ⟨p, 3, none⟩)), (fun v _ => v = .int .i64 g.size), (fun v _ => v = .slice oa fl oc), (fun v _ => v = .int .i64 (fl : Int)), (fun v _ => v = .int .i64 (g.size + (fl : Int))), (fun v _ => v = .pointer (some ⟨p, 0, none⟩)), (fun v _ => v = .pointer (some ⟨p, 0, none⟩)), (fun v _ => v = .pointer (some ⟨p, 6, none⟩)), (fun v _ => v = .int .i64 g.most), (fun v _ => v = .bool he9), (fun v _ => v = .bool he9)] (by kernel_rfl) (by kernel_rfl) rfl rfl rfl ?_ ?_ ?_
        · intro g hg v X Y hX hY hv
          simp only [List.mem_cons, List.not_mem_nil, or_false] at hg
          rcases hg with rfl | rfl | rfl | rfl | rfl | rfl | rfl | rfl | rfl | rfl | rfl | rfl | rfl | rfl | rfl | rfl | rfl | rfl | rfl
          all_goals first
            | exact hv
            | exact hv.kept hY
        · simp only [flowOps, and_true]
          refine ⟨?_, ?_, ?_, ?_, ?_, ?_, ?_, ?_, ?_, ?_, ?_, ?_, ?_, ?_, ?_, ?_, ?_, ?_, ?_⟩
          · intro xs W9 hW hn9
            simp only [flowAct, List.zipWith_cons_cons, List.zipWith_nil_left]
            go_wp2_with (fail)
            exact ⟨rfl, _, rfl, Below.refl _ _, by first | rfl | simp⟩
          · intro xs W9 hW hn9
            simp [flowNeeds, Region.binds] at hn9
            simp only [flowAct, List.zipWith_cons_cons, List.zipWith_nil_left]
            try simp only [hn9]
            go_wp2_with (fail)
            exact ⟨rfl, _, rfl, Below.refl _ _, by first | rfl | simp⟩
          · intro xs W9 hW hn9
            simp [flowNeeds, Region.binds] at hn9
            simp only [flowAct, List.zipWith_cons_cons, List.zipWith_nil_left]
            try simp only [hn9]
            go_wp2_with (fail)
            exact ⟨rfl, _, rfl, Below.refl _ _, by first | rfl | simp⟩
          · intro xs W9 hW hn9
            simp [flowNeeds, Region.binds] at hn9
            simp only [flowAct, List.zipWith_cons_cons, List.zipWith_nil_left]
            try simp only [hn9]
            go_wp2_with (go_at_call 53; (with_reducible refine (HHO.out _ hW).mono ?_); rintro e9 w9 ⟨rfl, hb9⟩)
            exact ⟨rfl, _, rfl, hb9, rfl⟩
          · intro xs W9 hW hn9
            simp [flowNeeds, Region.binds] at hn9
            simp only [flowAct, List.zipWith_cons_cons, List.zipWith_nil_left]
            try simp only [hn9]
            go_wp2_with (fail)
            exact ⟨rfl, _, rfl, Below.refl _ _, by first | rfl | simp⟩
          · intro xs W9 hW hn9
            simp [flowNeeds, Region.binds] at hn9
            simp only [flowAct, List.zipWith_cons_cons, List.zipWith_nil_left]
            try simp only [hn9]
            go_wp2_with (fail)
            exact ⟨rfl, _, rfl, Below.refl _ _, by first | rfl | simp⟩
          · intro xs W9 hW hn9
            simp [flowNeeds, Region.binds] at hn9
            simp only [flowAct, List.zipWith_cons_cons, List.zipWith_nil_left]
            try simp only [hn9]
            go_wp2_with (fail)
            exact ⟨rfl, _, rfl, Below.refl _ _, by first | rfl | simp⟩
          · intro xs W9 hW hn9
            simp [flowNeeds, Region.binds] at hn9
            simp only [flowAct, List.zipWith_cons_cons, List.zipWith_nil_left]
            try simp only [hn9]
            go_wp2_with (fail)
            exact ⟨rfl, _, rfl, Below.refl _ _, by first | rfl | simp⟩
          · intro xs W9 hW hn9
            simp [flowNeeds, Region.binds] at hn9
            simp only [flowAct, List.zipWith_cons_cons, List.zipWith_nil_left]
            try simp only [hn9]
            go_wp2_with (fail)
            exact ⟨rfl, _, rfl, Below.refl _ _, by first | rfl | simp⟩
          · intro xs W9 hW hn9
            simp [flowNeeds, Region.binds] at hn9
            obtain ⟨bv, hl9⟩ := (HLW.out.below hW).cs
            obtain ⟨c0, c1, c2, c3, c4, c5, c6⟩ := hl9.cs
            clear hl9
            simp only [flowAct, List.zipWith_cons_cons, List.zipWith_nil_left]
            try simp only [hn9]
            go_wp2_with (fail)
            exact ⟨rfl, _, rfl, Below.refl _ _, by first | rfl | simp⟩
          · intro xs W9 hW hn9
            simp [flowNeeds, Region.binds] at hn9
            simp only [flowAct, List.zipWith_cons_cons, List.zipWith_nil_left]
            try simp only [hn9]
            go_wp2_with (fail)
            exact ⟨rfl, _, rfl, Below.refl _ _, by first | rfl | simp⟩
          · intro xs W9 hW hn9
            simp [flowNeeds, Region.binds] at hn9
            simp only [flowAct, List.zipWith_cons_cons, List.zipWith_nil_left]
            try simp only [hn9]
            go_wp2_with (fail)
            exact ⟨rfl, _, rfl, Below.refl _ _, by first | rfl | simp⟩
          · intro xs W9 hW hn9
            simp [flowNeeds, Region.binds] at hn9
            simp only [flowAct, List.zipWith_cons_cons, List.zipWith_nil_left]
            try simp only [hn9]
            go_wp2_with (fail)
            exact ⟨rfl, _, rfl, Below.refl _ _, by first | rfl | simp⟩
          · intro xs W9 hW hn9
            simp [flowNeeds, Region.binds] at hn9
            simp only [flowAct, List.zipWith_cons_cons, List.zipWith_nil_left]
            try simp only [hn9]
            go_wp2_with (fail)
            exact ⟨rfl, _, rfl, Below.refl _ _, by first | rfl | simp⟩
          · intro xs W9 hW hn9
            simp [flowNeeds, Region.binds] at hn9
            simp only [flowAct, List.zipWith_cons_cons, List.zipWith_nil_left]
            try simp only [hn9]
            go_wp2_with (fail)
            exact ⟨rfl, _, rfl, Below.refl _ _, by first | rfl | simp⟩
          · intro xs W9 hW hn9
            simp [flowNeeds, Region.binds] at hn9
            simp only [flowAct, List.zipWith_cons_cons, List.zipWith_nil_left]
            try simp only [hn9]
            go_wp2_with (fail)
            exact ⟨rfl, _, rfl, Below.refl _ _, by first | rfl | simp⟩
          · intro xs W9 hW hn9
            simp [flowNeeds, Region.binds] at hn9
            obtain ⟨bv, hl9⟩ := (HLW.out.below hW).cs
            obtain ⟨c0, c1, c2, c3, c4, c5, c6⟩ := hl9.cs
            clear hl9
            simp only [flowAct, List.zipWith_cons_cons, List.zipWith_nil_left]
            try simp only [hn9]
            go_wp2_with (fail)
            exact ⟨rfl, _, rfl, Below.refl _ _, by first | rfl | simp⟩
          · intro xs W9 hW hn9
            simp [flowNeeds, Region.binds] at hn9
            simp only [flowAct, List.zipWith_cons_cons, List.zipWith_nil_left]
            try simp only [hn9]
            go_wp2_with (fail)
            exact ⟨rfl, _, rfl, Below.refl _ _, by first | rfl | simp⟩
          · intro xs W9 hW hn9
            simp [flowNeeds, Region.binds] at hn9
            simp only [flowAct, List.zipWith_cons_cons, List.zipWith_nil_left]
            try simp only [hn9]
            go_wp2_with (fail)
            exact ⟨rfl, _, rfl, Below.refl _ _, by first | rfl | simp⟩
        · intro xs W9 hW hall
          simp only [flowAll, and_true, Nat.zero_add, Nat.reduceAdd] at hall
          obtain ⟨a0, a1, a2, a3, a4, a5, a6, a7, a8, a9, a10, a11, a12, a13, a14, a15, a16, a17, a18⟩ := hall
          simp only [flowAct, List.zipWith_cons_cons, List.zipWith_nil_left]
          simp only [a18]
          clear a0 a1 a2 a3 a4 a5 a6 a7 a8 a9 a10 a11 a12 a13 a14 a15 a16 a17 a18
          have HLW2 := Lib.hid (HLW.out.below hW)
          clear hW
          cases he9
          · have HTE0 := Lib.hid (show T = (0, st, g) from by rw [HA.out, if_neg (fun h => by have := HDE.out.2; simp at this; omega)])
            obtain ⟨⟨r2, s2, g2⟩, hpr⟩ : ∃ z, putL st g f = z := ⟨_, rfl⟩
            have HPU := Lib.hid (lput_p HLW2.out HK.out.ne (HTW.out _ HLW2.out.tr) (by have := HLST.out; omega) (by have := HLST.out; omega) (by have := HK.out.nx; omega) (by have := HK.out.nx; omega) (by have := HBZ.out; omega) (by have := HBZ.out; omega) HOY.out (by have := HFL.out; have := HWL.out; omega) HOA.out)
            rw [hpr] at HPU
            simp only at HPU
            have HPN := Lib.hid (show putL st g f = (r2, s2, g2) from hpr)
            have HG2 := Lib.hid (show 0 ≤ g2.next ∧ g2.next ≤ 2000000000000 from by
              have h9 := (HK.out).put st (f := f) (by have := HFL.out; have := HWL.out; omega) (by exact HNX.out)
              rw [hpr] at h9
              exact h9.nx)
            clear hpr
            by_cases hr2 : r2 = 0
            · subst hr2
              have hnx2 := HG2.out
              go_wp2_with (go_at_call 55; (with_reducible refine HPU.out.mono ?_); rintro e7 w7 ⟨rfl, hl7⟩; have HL7 := Lib.hid hl7; obtain ⟨bv7, hl9⟩ := hl7.cs; obtain ⟨c0, c1, c2, c3, c4, c5, c6⟩ := hl9.cs; clear hl7 hl9)
              go_ret2
              rw [← HRR.out, HTE0.out]
              simp only [ne_eq, not_true_eq_false, if_false, HPN.out, putR, if_true]
              exact ⟨by first | rfl | (congr 4; rw [IntKind.wrap_i64]; omega) | go_num, HWGo.out _ _ _ HL7.out⟩
            · have hrb : (r2 == 0) = false := by rw [beq_eq_false_iff_ne]; exact hr2
              by_cases hr3 : r2 = 3
              · subst hr3
                go_wp2_with (go_at_call 55; (with_reducible refine HPU.out.mono ?_); rintro e7 w7 ⟨rfl, hl7⟩; have HL7 := Lib.hid hl7; clear hl7)
                go_ret2
                rw [← HRR.out, HTE0.out]
                simp only [ne_eq, not_true_eq_false, if_false, HPN.out, putR]
                exact ⟨by first | rfl | simp [errR], by simpa [errR] using HWGo.out _ _ _ HL7.out⟩
              · have hrb3 : (r2 == 3) = false := by rw [beq_eq_false_iff_ne]; exact hr3
                have HR2 := Lib.hid (And.intro hr2 hr3)
                go_wp2_with (go_at_call 55; (with_reducible refine HPU.out.mono ?_); rintro e7 w7 ⟨rfl, hl7⟩; have HL7 := Lib.hid hl7; clear hl7)
                go_ret2
                rw [← HRR.out, HTE0.out]
                simp only [ne_eq, not_true_eq_false, if_false, HPN.out, putR, if_neg HR2.out.1]
                exact ⟨by unfold errR; rw [if_neg HR2.out.2]; rfl, HWGo.out _ _ _ HL7.out⟩
          · have HTT := Lib.hid (show T = turnL st g from by rw [HA.out, if_pos (by have h1 := HDE.out.1; have h2 := HDE.out.2; simp at h1 h2; omega)])
            have HTU := Lib.hid (lturn_p HLW2.out HK.out.ne HTW.out (by have := HLST.out; omega) (by have := HLST.out; omega) HK.out.nx.1 (by have := HK.out.nx; omega) (by have := HK.out.len; have := HN.out; omega))
            obtain ⟨⟨r1, s1, g1⟩, htr⟩ : ∃ z, turnL st g = z := ⟨_, rfl⟩
            rw [htr] at HTT HTU HGT HTN
            simp only at HTU HGT HTN
            clear htr
            by_cases hr1 : r1 = 0
            · subst hr1
              have HTE0 := HTT
              go_upto_region 12 with (go_at_call 54; (with_reducible refine HTU.out.mono ?_); rintro e6 w6 ⟨rfl, hl6⟩; have HL6 := Lib.hid hl6; clear hl6)
              obtain ⟨⟨r2, s2, g2⟩, hpr⟩ : ∃ z, putL s1 g1 f = z := ⟨_, rfl⟩
              have HPU := Lib.hid (lput_p HL6.out HGT.out.ne (HTW.out _ HL6.out.tr) (by have := HGT.out.last; omega) (by have := HGT.out.last; omega) (by have := HGT.out.nx; omega) (by have := HGT.out.nx; omega) (by have := (And.intro HGT.out.sz HN.out); omega) (by have := (And.intro HGT.out.sz HN.out); omega) HOY.out (by have := HFL.out; have := HWL.out; omega) HOA.out)
              rw [hpr] at HPU
              simp only at HPU
              have HPN := Lib.hid (show putL s1 g1 f = (r2, s2, g2) from hpr)
              have HG2 := Lib.hid (show 0 ≤ g2.next ∧ g2.next ≤ 2000000000000 from by
                have h9 := (HGT.out).put s1 (f := f) (by have := HFL.out; have := HWL.out; omega) (by rw [HTN.out]; exact HNX.out)
                rw [hpr] at h9
                exact h9.nx)
              clear hpr
              by_cases hr2 : r2 = 0
              · subst hr2
                have hnx2 := HG2.out
                go_wp2_with (go_at_call 55; (with_reducible refine HPU.out.mono ?_); rintro e7 w7 ⟨rfl, hl7⟩; have HL7 := Lib.hid hl7; obtain ⟨bv7, hl9⟩ := hl7.cs; obtain ⟨c0, c1, c2, c3, c4, c5, c6⟩ := hl9.cs; clear hl7 hl9)
                go_ret2
                rw [← HRR.out, HTE0.out]
                simp only [ne_eq, not_true_eq_false, if_false, HPN.out, putR, if_true]
                exact ⟨by first | rfl | (congr 4; rw [IntKind.wrap_i64]; omega) | go_num, HWGo.out _ _ _ HL7.out⟩
              · have hrb : (r2 == 0) = false := by rw [beq_eq_false_iff_ne]; exact hr2
                by_cases hr3 : r2 = 3
                · subst hr3
                  go_wp2_with (go_at_call 55; (with_reducible refine HPU.out.mono ?_); rintro e7 w7 ⟨rfl, hl7⟩; have HL7 := Lib.hid hl7; clear hl7)
                  go_ret2
                  rw [← HRR.out, HTE0.out]
                  simp only [ne_eq, not_true_eq_false, if_false, HPN.out, putR]
                  exact ⟨by first | rfl | simp [errR], by simpa [errR] using HWGo.out _ _ _ HL7.out⟩
                · have hrb3 : (r2 == 3) = false := by rw [beq_eq_false_iff_ne]; exact hr3
                  have HR2 := Lib.hid (And.intro hr2 hr3)
                  go_wp2_with (go_at_call 55; (with_reducible refine HPU.out.mono ?_); rintro e7 w7 ⟨rfl, hl7⟩; have HL7 := Lib.hid hl7; clear hl7)
                  go_ret2
                  rw [← HRR.out, HTE0.out]
                  simp only [ne_eq, not_true_eq_false, if_false, HPN.out, putR, if_neg HR2.out.1]
                  exact ⟨by unfold errR; rw [if_neg HR2.out.2]; rfl, HWGo.out _ _ _ HL7.out⟩
            · have hrb : (r1 == 0) = false := by rw [beq_eq_false_iff_ne]; exact hr1
              have HR1 := Lib.hid hr1
              by_cases hr3 : r1 = 3
              · subst hr3
                go_wp2_with (go_at_call 54; (with_reducible refine HTU.out.mono ?_); rintro e6 w6 ⟨rfl, hl6⟩; have HL6 := Lib.hid hl6; clear hl6)
                go_ret2
                rw [← HRR.out, HTT.out]
                exact ⟨by first | rfl | simp [errR], by simpa [errR] using HWGo.out _ _ _ HL6.out⟩
              · have hrb3 : (r1 == 3) = false := by rw [beq_eq_false_iff_ne]; exact hr3
                have HR3 := Lib.hid hr3
                go_wp2_with (go_at_call 54; (with_reducible refine HTU.out.mono ?_); rintro e6 w6 ⟨rfl, hl6⟩; have HL6 := Lib.hid hl6; clear hl6)
                go_ret2
                rw [← HRR.out, HTT.out]
                simp only [ne_eq, HR1.out, not_false_eq_true, if_true]
                exact ⟨by unfold errR; rw [if_neg HR3.out]; rfl, HWGo.out _ _ _ HL6.out⟩
  
  · rw [if_pos hf]
    rw [if_neg hf] at HR
    clear h hg hn hT hb hm hf
    go_enter Tryz.func17, Tryz.ntmps17
    go_wp2_with ((go_at_call 51; (with_reducible refine HR.out.mono ?_); rintro e1 w1 ⟨rfl, hb1⟩; have HB1 := Lib.hid hb1; obtain ⟨bv, hl1⟩ := (HG.out.below hb1).cs; obtain ⟨c0, c1, c2, c3, c4, c5, c6⟩ := hl1.cs; clear hb1 hl1))
    go_ret2
    exact ⟨rfl, HG.out.below HB1.out⟩
end Go.Proofs.YtioeimkaljmffaaGreatDoor
end

section
namespace Go.Proofs.YtioeimkaljmffaaGreatDoor
open Go.RowKit Go Go.Sort Go.Maps Go.WideMaps
set_option linter.unusedVariables false
set_option maxRecDepth 20000

/-- Opened: the disk (in F) and the log, what was elsewhere is kept, and the records are kept by whoever keeps what is not the disk's. -/
def OpenKept (w0 W : World) (F : Nat → Prop) (q : Nat) (st : Ds) (g : Lg) (l : List (List UInt8)) (e : Ending) (W' : World) : Prop :=
  ∃ p v, e = .returned (.tuple #[.pointer (some ⟨p, 0, none⟩), v, .int .i64 0]) ∧ Wg w0 q p st g W' ∧ ∃ F' G', Dk W' q st F' ∧ Lk W' p q g G' ∧ (∀ k, F' k → ¬ G' k) ∧ (∀ k, F' k → F k ∨ W.heap.size ≤ k) ∧ (∀ k, G' k → W.heap.size ≤ k) ∧
    (∀ k, k < W.heap.size → ¬ F k → W'.heap[k]? = W.heap[k]?) ∧ ∀ W2 : World, (∀ k, k < W'.heap.size → ¬ F' k → W2.heap[k]? = W'.heap[k]?) → OwnRows W2 W.heap.size v l
set_option maxRecDepth 100000 in
set_option maxHeartbeats 12800000 in
theorem wopen_kept {w0 W : World} {q : Nat} {st : Ds} {F : Nat → Prop} (hd : Dk W q st F) (hF : ∀ k, F k → w0.heap.size ≤ k) (hb0 : Below w0.heap.size w0 W) (hT : TabE w0) (hsz : ∀ f ∈ st.F, f.b.length ≤ 99999) (size : Int) (hrd : (st.read []).2 = 152) (h1 : 1 ≤ size) (h2 : size ≤ 1048576)
    {R : (List (List UInt8) × Bool × Int) × Lg} (hR : readF st (numsF (st.F.map Fi.nm)) [] (lg0 st (numsF (st.F.map Fi.nm)) size) = R) {S : Int × Ds × Lg} (hS : settleL st R.2 R.1.2.1 = S) :
    Calls Tryz.prog 14 #[.pointer (some ⟨q, 0, none⟩), .int .i64 size] W (fun e W' => (¬ R.1.2.2 = 0 → OpenBad w0 q st R.1.2.2 e W') ∧ (R.1.2.2 = 0 → ¬ S.1 = 0 → OpenBad w0 q S.2.1 S.1 e W') ∧ (R.1.2.2 = 0 → S.1 = 0 → OpenKept w0 W F q S.2.1 S.2.2 R.1.1 e W')) := by
  have HD := Lib.hid hd
  have HB0 := Lib.hid hb0
  have HF := Lib.hid hF
  have HTE := Lib.hid hT
  have HSZ := Lib.hid hsz
  have HRD := Lib.hid (dread_c hd [] (by simp))
  rw [hrd] at HRD
  rw [show text [] = ⟨#[]⟩ from rfl] at HRD
  have HFI := Lib.hid (fun (W' : World) (hb : Below W.heap.size W W') => (show Calls Tryz.prog 45 #[.pointer (some ⟨q, 0, none⟩)] W' (FindPost q st.fails (st.F.map Fi.nm) W') from wfind_c (wdk_keep hd fun k hk => hb.block k (wdk_lt hd hk)) (hT.grown (hb0.trans (hb.mono hb0.size)))))
  obtain ⟨B, hB⟩ : ∃ z, numsF (st.F.map Fi.nm) = z := ⟨_, rfl⟩
  have HBR := Lib.hid (show ∀ x ∈ B, 0 ≤ x ∧ x ≤ 999999999999 from hB ▸ numsF_range _)
  have HBL := Lib.hid (show B.length ≤ 64 from by rw [← hB]; have h3 := numsF_len (st.F.map Fi.nm); have h4 := hd.ok.len; rw [List.length_map] at h3; omega)
  have HNO := Lib.hid hB
  rw [hB] at hR
  have HRL := Lib.hid (show ∀ x, (((st.read (nameW 119 x)).1).getD []).length ≤ 99999 from fun x => by
    unfold Ds.read
    split
    · simp
    · split
      · simp
      · rename_i f hf
        exact hsz f (List.mem_of_find?_eq_some hf))
  have HRI := Lib.hid (show R.2.B = B ∧ (0 ≤ R.2.next ∧ R.2.next ≤ 2000000000000) from by
    have := readF_inv HRL.out B [] (lg0 st B size) HBR.out ⟨by show (0 : Int) ≤ 1; decide, by show (1 : Int) ≤ _; decide⟩
    rw [hR] at this
    exact this)
  have HLN := Lib.hid (show -9223372036854775808 ≤ R.2.lastN ∧ R.2.lastN ≤ 9223372036854775807 from by
    unfold Lg.lastN
    rw [HRI.out.1, List.getD_eq_getElem?_getD]
    cases h : B[B.length - 1]? with
    | none => simp
    | some x =>
      have := HBR.out x (List.mem_of_getElem? h)
      simp only [Option.getD_some]
      omega)
  have HR := Lib.hid hR
  have HS := Lib.hid hS
  have n1 : ¬ size < 1 := by omega
  have n2 : ¬ 1048576 < size := by omega
  obtain ⟨⟨recs, torn, er⟩, g1⟩ := R
  simp only at HS HRI HLN ⊢
  clear hd hF hb0 hT hsz hrd h1 h2 hB hR hS
  go_enter Tryz.func14, Tryz.ntmps14
  go_upto_region 7 with (first
    | (go_at_call 32; (with_reducible refine HRD.out.mono ?_); rintro e1 w1 ⟨rv, rfl, hb1, -⟩; have HB1 := Lib.hid hb1; clear hb1)
    | (go_at_call 45; (with_reducible refine (HFI.out _ HB1.out).mono ?_); rintro e2 w2 ⟨fv, rfl, ho2, hb2⟩; have HO2 := Lib.hid ho2; have HB12 := Lib.hid hb2; have HB2 := Lib.hid (HB1.out.trans (hb2.mono HB1.out.size)); clear ho2 hb2))
  have hal := alloc_below w2 (.cells #[.pointer (some ⟨q, 0, none⟩), .int .i64 st.fails, fv, .int .i64 0, .int .i64 1, .int .i64 0, .int .i64 size] 87)
  have HB3 := Lib.hid (HB2.out.trans (hal.mono HB2.out.size))
  have HLI := Lib.hid (show LogIn (w2.alloc (.cells #[.pointer (some ⟨q, 0, none⟩), .int .i64 st.fails, fv, .int .i64 0, .int .i64 1, .int .i64 0, .int .i64 size] 87)) w2.heap.size q fv (lg0 st B size) from ⟨heap_alloc_new w2 _, by
    have := HO2.out.kept hal
    rw [HNO.out] at this
    exact this.mono (Nat.zero_le _)⟩)
  have HGS := Lib.hid (show (∀ k, lgfoot w2.heap.size fv k → W.heap.size ≤ k) from fun k hk => by
    rcases hk with rfl | hk
    · exact HB2.out.size
    · exact Nat.le_trans HB1.out.size (HO2.out.lt k hk).1)
  obtain ⟨p, hp⟩ : ∃ z, w2.heap.size = z := ⟨_, rfl⟩
  rw [hp] at HLI HGS ⊢
  have HPW := Lib.hid (show W.heap.size ≤ p from by rw [← hp]; exact HB2.out.size)
  clear hal hp
  generalize w2.alloc (.cells #[.pointer (some ⟨q, 0, none⟩), .int .i64 st.fails, fv, .int .i64 0, .int .i64 1, .int .i64 0, .int .i64 size] 87) = w3 at *
  have HD3 := Lib.hid (wdk_keep HD.out fun k hk => HB3.out.block k (wdk_lt HD.out hk))
  have HDJ := Lib.hid (show ∀ k, F k → ¬ lgfoot p fv k from fun k hk hg => by have h1 := wdk_lt HD.out hk; have h2 := HGS.out k hg; omega)
  have HBE := Lib.hid (HB0.out.trans (HB3.out.mono HB0.out.size))
  have HTR := Lib.hid (show ∀ W', Trn (fun k => k = p) w3 W' → Below w0.heap.size w0 W' from fun W' ht => HBE.out.trans (ht.base HBE.out.size (fun k hk => by rw [hk]; exact Nat.le_trans HB0.out.size HPW.out)))
  have HRE := Lib.hid (lread_p HD3.out HLI.out HDJ.out (HTE.out.i.grown HBE.out) (fun W' ht => HTE.out.i.grown (HTR.out W' ht)) (fun x hx => by have := HBR.out x hx; omega) (by have := HBL.out; show B.length ≤ 5000; omega) HSZ.out)
  rw [show readF st (lg0 st B size).B [] (lg0 st B size) = ((recs, torn, er), g1) from HR.out] at HRE
  have HSE := Lib.hid (fun (W' : World) (hl : LogIn W' p q fv g1) (ht : Trn (fun k => k = p) w3 W') => by
    have hd4 : Dk W' q st F := wdk_keep HD3.out fun k hk => ht.block k (wdk_lt HD3.out hk) fun e => HDJ.out k hk (.inl e)
    have hl4 : Lw W' F (lgfoot p fv) q p st g1 W' := Lw.start hd4 ⟨fv, hl, rfl⟩ HDJ.out
    have := lsettle_c hl4 (fun W2 ht2 => HTE.out.i.grown ((HTR.out W' ht).trans (ht2.base (HTR.out W' ht).size (fun k hk => hk.elim (HF.out k) (fun h => Nat.le_trans HB0.out.size (HGS.out k h)))))) HLN.out.1 HLN.out.2 HRI.out.2.1 HRI.out.2.2 torn
    rw [HS.out] at this
    exact this)
  have HFG := Lib.hid (show (∀ k, F k ∨ lgfoot p fv k → k < w3.heap.size) from fun k hk => hk.elim (wdk_lt HD3.out) (fun h => HLI.out.lt h))
  have HGW := Lib.hid (show (∀ k, lgfoot p fv k → w0.heap.size ≤ k) from fun k hk => Nat.le_trans HB0.out.size (HGS.out k hk))
  unfold LreadPost at HRE
  simp only at HRE
  clear HRD HFI HLI HD HB1 HB2 HB12 HO2 HNO HR HBR HBL HRL HSZ HLN HS
  obtain ⟨s, st2, g2⟩ := S
  simp only at HSE ⊢
  by_cases her : er = 0
  · subst her
    by_cases hs0 : s = 0
    · subst hs0
      go_wp2_with (first
        | (go_at_call 46; (with_reducible refine HRE.out.mono ?_); rintro e4 w4 ⟨v4, rfl, hl4, ht4, ho4⟩; have HL4 := Lib.hid hl4; have HT4 := Lib.hid ht4; have HO4 := Lib.hid ho4; clear hl4 ht4 ho4)
        | (go_at_call 47; (with_reducible refine (HSE.out _ HL4.out HT4.out).mono ?_); rintro e5 w5 ⟨rfl, hl5⟩; have HL5 := Lib.hid hl5; clear hl5))
      go_ret3
      obtain ⟨⟨F', G', hd5, hr5, h15, h45, h55⟩, ht5⟩ := HL5.out
      have hz1 := HB3.out.size
      have hz2 := HT4.out.size
      have hz3 := HPW.out
      refine ⟨p, v4, rfl, wg_of HF.out HGW.out (HTR.out _ HT4.out) HL5.out, F', G', hd5, hr5, h15, fun k hk => (h45 k hk).imp_right fun h => by omega, fun k hk => (h55 k hk).elim (fun h => HGS.out k h) fun h => by omega, fun k hk hf => ?_, fun W2 h2 => ?_⟩
      · rw [ht5.block k (by omega) fun h => h.elim hf fun h => by have := HGS.out k h; omega]
        rw [HT4.out.block k (by omega) fun h => by omega]
        exact HB3.out.block k hk
      · refine (HO4.out.far fun k hk hlt => ?_).mono HB3.out.size
        have hfg : ¬ (F k ∨ lgfoot p fv k) := fun h => by have := HFG.out k h; omega
        have h8 := ht5.size
        rw [h2 k (by omega) fun h => (h45 k h).elim (fun h => hfg (.inl h)) fun h => by omega]
        exact ht5.block k hlt hfg
    · have hsb : (s == 0) = false := by rw [beq_eq_false_iff_ne]; exact hs0
      go_wp2_with (first
        | (go_at_call 46; (with_reducible refine HRE.out.mono ?_); rintro e4 w4 ⟨v4, rfl, hl4, ht4, ho4⟩; have HL4 := Lib.hid hl4; have HT4 := Lib.hid ht4; clear hl4 ht4 ho4)
        | (go_at_call 47; (with_reducible refine (HSE.out _ HL4.out HT4.out).mono ?_); rintro e5 w5 ⟨rfl, hl5⟩; have HL5 := Lib.hid hl5; clear hl5))
      go_ret3
      exact ⟨rfl, lw_lv HF.out HGW.out (HTR.out _ HT4.out) HL5.out⟩
  · have hrb : (er == 0) = false := by rw [beq_eq_false_iff_ne]; exact her
    go_wp2_with (go_at_call 46; (with_reducible refine HRE.out.mono ?_); rintro e4 w4 ⟨v4, rfl, hl4, ht4, ho4⟩; have HT4 := Lib.hid ht4; clear hl4 ht4 ho4)
    go_ret3
    refine ⟨rfl, F, ?_, HF.out, HTR.out _ HT4.out⟩
    exact wdk_keep HD3.out fun k hk => HT4.out.block k (wdk_lt HD3.out hk) fun e => HDJ.out k hk (.inl e)
end Go.Proofs.YtioeimkaljmffaaGreatDoor
end

section
namespace Go.Proofs.YtioeimkaljmffaaGreatDoor
open Go.RowKit Go Go.Sort
set_option linter.unusedVariables false
set_option maxRecDepth 20000

section
variable {st : Ds} {g : Lg} {S : List Sg} {b : Int} {rl : List (List UInt8)} {su : Nat}
theorem fires_one {st : Ds} (h : ¬ Fires st) (hp : st.plan = true) (h0 : 0 ≤ st.pn) : 1 ≤ st.pn := by
  have : st.pn ≠ 0 := fun e => h ⟨hp, e⟩
  omega
/-- An append of a log whose disk has a plan. -/
theorem Wk.appP (h : Wk st g S b rl su) (hpl : st.plan = true) (h0 : 0 ≤ st.pn) {l : List UInt8} (hs : (framesS (recsOf S ++ rl)).length + (wrapS l).length ≤ 1000000) (hl : l.length ≤ 100000) (hn : g.next + 1 ≤ 100000000) (hseg : S.length + 1 < 64) (ho : b = 1 + ((recsOf S).length : Int)) :
    ((appL st g l).1 = (g.next, 0) ∧ (appL st g l).2.1.plan = true ∧ 0 ≤ (appL st g l).2.1.pn ∧ ∃ (S' : List Sg) (b' : Int) (rl' : List (List UInt8)) (su' : Nat), Wk (appL st g l).2.1 (appL st g l).2.2 S' b' rl' su' ∧ recsOf S' ++ rl' = recsOf S ++ rl ++ [l] ∧ 3 * (S'.length : Int) + (appL st g l).2.1.pn ≤ 3 * (S.length : Int) + st.pn ∧ b' = 1 + ((recsOf S').length : Int)) ∨
    ((appL st g l).1 = (0, 150) ∧ Dd (appL st g l).2.1 (recsOf S ++ rl ++ [l]) (appL st g l).2.2.sure ∧ (appL st g l).2.2.fails = 0) := by
  have hnx := h.nx
  have hb1 := h.b1
  have hpre : (recsOf S ++ rl) <+: (recsOf S ++ rl ++ [l]) := List.prefix_append _ _
  unfold appL
  rw [if_neg (by rw [h.fl.1, h.fl.2]; simp), if_neg (by omega)]
  by_cases ht : g.lastN < g.next ∧ g.most < g.size + ((wrapS l).length : Int)
  · have hr : 0 < rl.length := by rw [h.last] at ht; omega
    have ea : appT st g (wrapS l).length = turnL st g := if_pos ht
    rw [ea]
    by_cases hf1 : Fires st
    · obtain ⟨e1, e2, e3⟩ := h.sync_dead hf1 _ hpre ho
      have et : turnL st g = syncL st g := if_neg (by rw [e1]; decide)
      refine .inr ?_
      rw [et, if_pos (by rw [e1]; decide), e1]
      exact ⟨rfl, by rw [e3]; exact e2, by rw [e3]; exact h.fl.2⟩
    · obtain ⟨e1, w1, e2, e3, e4, e5, e6, e7⟩ := h.synced hf1
      have hp1 := fires_one hf1 hpl h0
      have q1 := e7 hpl
      have et : turnL st g = beginL (syncL st g).2.1 (syncL st g).2.2 := if_pos e1
      rw [et]
      generalize syncL st g = p at *
      obtain ⟨r1, st1, g1⟩ := p
      simp only at e1 w1 e2 e3 e4 e5 e6 e7 q1 ⊢
      by_cases hf2 : Fires st1
      · obtain ⟨b1', b2, b3⟩ := w1.begin_dead hr hf2 hseg _ hpre ho
        refine .inr ?_
        rw [if_pos (by rw [b1']; decide), b1']
        exact ⟨rfl, by rw [b3]; exact b2, by rw [b3]; exact w1.fl.2⟩
      · obtain ⟨b1', w2, b2, b3, b4, b5, b6⟩ := w1.begun hr hf2 hseg
        have hp2 := fires_one hf2 (e6.trans hpl) (by omega)
        have q2 := b6 (e6.trans hpl)
        have hw1 := w1.nx
        rw [if_neg (by rw [b1']; decide)]
        generalize beginL st1 g1 = q at *
        obtain ⟨r2, st2, g2⟩ := q
        simp only at b1' w2 b2 b3 b4 b5 b6 q2 ⊢
        have hfu := h.full
        have hs2 : (framesS (recsOf (S ++ [(b, rl)]) ++ [])).length + (wrapS l).length ≤ 1000000 := by rw [hfu]; exact hs
        have hrl : ((recsOf (S ++ [(b, rl)])).length : Int) = ((recsOf S).length : Int) + (rl.length : Int) := by
          have := congrArg List.length hfu
          rw [List.append_nil, List.length_append] at this
          omega
        by_cases hf3 : Fires st2
        · obtain ⟨p1, p2, p3⟩ := w2.put_dead hs2 hl hf3 (by omega)
          refine .inr ?_
          unfold putR
          rw [if_neg (by rw [p1]; decide), p1]
          rw [hfu] at p2
          exact ⟨rfl, by rw [p3]; exact p2, by rw [p3]; exact w2.fl.2⟩
        · obtain ⟨p1, w3, p2, p3, p4, p5⟩ := w2.put hs2 hl (by omega) hf3
          have hpl2 : st2.plan = true := b5.trans (e6.trans hpl)
          have hp3 := fires_one hf3 hpl2 (by omega)
          have q3 := p5 hpl2
          unfold putR
          rw [if_pos p1]
          refine .inl ⟨by simp only; rw [p2, b3, e5]; simp, by simp only; rw [p4, hpl2], by simp only; omega, _, _, _, _, w3, ?_, ?_, by omega⟩
          · rw [← List.append_assoc, hfu]
          · rw [List.length_append, List.length_singleton]
            simp only
            omega
  · have ea : appT st g (wrapS l).length = (0, st, g) := if_neg ht
    rw [ea, if_neg (by simp)]
    simp only
    by_cases hf3 : Fires st
    · obtain ⟨p1, p2, p3⟩ := h.put_dead hs hl hf3 ho
      refine .inr ?_
      unfold putR
      rw [if_neg (by rw [p1]; decide), p1]
      exact ⟨rfl, by rw [p3]; exact p2, by rw [p3]; exact h.fl.2⟩
    · obtain ⟨p1, w3, p2, p3, p4, p5⟩ := h.put hs hl hn hf3
      have hp3 := fires_one hf3 hpl h0
      have q3 := p5 hpl
      unfold putR
      rw [if_pos p1]
      refine .inl ⟨by simp only; rw [p2]; simp, by simp only; rw [p4, hpl], by simp only; omega, _, _, _, _, w3, by rw [List.append_assoc], by simp only; omega, ho⟩
end
/-- A log on a disk with a plan: at work, or behind the failure. -/
structure Kp (c : Nat) (st : Ds) (g : Lg) (all : List (List UInt8)) : Prop where
  gok : GOk g (100 + 2 * c)
  cost : costS all ≤ 10000
  how : (st.fails = g.fails ∧ st.plan = true ∧ 0 ≤ st.pn ∧ ∃ S b rl su, Wk st g S b rl su ∧ recsOf S ++ rl = all ∧ 3 * (S.length : Int) + st.pn ≤ 79 ∧ b = 1 + ((recsOf S).length : Int)) ∨ (g.fails = 0 ∧ Dd st all g.sure)
section
variable {c : Nat} {st : Ds} {g : Lg} {all : List (List UInt8)} {l : List UInt8}
theorem costS_len : ∀ (ls : List (List UInt8)), 20 * ls.length ≤ costS ls
  | [] => by simp
  | x :: r => by
    have := costS_len r
    simp only [costS, List.map_cons, List.sum_cons, List.length_cons] at this ⊢
    omega
theorem Kp.up (h : Kp c st g all) : Kp (c + 1) st g all := ⟨h.gok.mono (by omega), h.cost, h.how⟩
theorem Kp.app (h : Kp c st g all) (hc : costS (all ++ [l]) ≤ 10000) (on : st.fails = g.fails) :
    ((appL st g l).1 = ((all.length : Int) + 1, 0) ∨ (appL st g l).1 = (0, 150)) ∧ Kp (c + 1) (appL st g l).2.1 (appL st g l).2.2 (all ++ [l]) := by
  have hl := cost_mem (ls := all ++ [l]) (l := l) (by simp)
  have hw := wrap_ten (l := l) (by omega)
  have hg := h.gok.app st (l := l) (by omega)
  have hlen := costS_len all
  have hcf := cost_frames all h.cost
  have hcost := h.cost
  rcases h.how with ⟨-, hp, h0, S, b, rl, su, w, rfl, hS, ho⟩ | ⟨h1, hd⟩
  · have hnx := w.nx
    rw [List.length_append] at hlen
    rcases w.appP hp h0 (l := l) (by omega) (by omega) (by omega) (by omega) ho with ⟨e1, e2, e3, S', b', rl', su', w', e4, e5, e6⟩ | ⟨e1, e2, e3⟩
    · refine ⟨.inl ?_, hg.mono (by omega), hc, .inl ⟨by rw [w'.fl.1, w'.fl.2], e2, e3, S', b', rl', su', w', e4, by omega, e6⟩⟩
      rw [e1, hnx, ho, List.length_append]
      congr 1
      omega
    · exact ⟨.inr e1, hg.mono (by omega), hc, .inr ⟨e3, e2⟩⟩
  · rw [hd.fails, h1] at on; exact absurd on (by decide)
theorem Kp.app_off (h : Kp c st g all) (off : ¬ st.fails = g.fails) : appL st g l = ((0, 150), st, g) := by
  unfold appL; exact if_pos off
theorem Kp.sync (h : Kp c st g all) : Kp c (snyL st g).2.1 (snyL st g).2.2 all := by
  by_cases on : st.fails = g.fails
  · have e : snyL st g = syncL st g := if_neg (not_not_intro on)
    rw [e]
    rcases h.how with ⟨-, hp, h0, S, b, rl, su, w, rfl, hS, ho⟩ | ⟨h1, hd⟩
    · by_cases hf : Fires st
      · obtain ⟨e1, e2, e3⟩ := w.sync_dead hf _ (List.prefix_refl _) ho
        exact ⟨h.gok.sync st, h.cost, .inr ⟨by rw [e3]; exact w.fl.2, by rw [e3]; exact e2⟩⟩
      · obtain ⟨e1, w1, e2, e3, e4, e5, e6, e7⟩ := w.synced hf
        have hp1 := fires_one hf hp h0
        have q1 := e7 hp
        exact ⟨h.gok.sync st, h.cost, .inl ⟨by rw [w1.fl.1, w1.fl.2], e6.trans hp, by omega, S, b, rl, _, w1, rfl, by omega, ho⟩⟩
    · rw [hd.fails, h1] at on; exact absurd on (by decide)
  · rw [show snyL st g = (150, st, g) from if_pos on]; exact h
/-- The power fails. -/
theorem Kp.lost (h : Kp c st g all) (keep : Int) : Dd (st.fail keep).2 all g.sure := by
  rcases h.how with ⟨-, hp, h0, S, b, rl, su, w, rfl, hS, ho⟩ | ⟨h1, hd⟩
  · have e : st.fail keep = (0, st.lost keep st.F) := if_neg (by rw [w.on]; decide)
    rw [e]
    exact dd_lost w.files w.ch w.b1 w.ble w.sux (List.prefix_refl _) w.sure w.short w.fl.1 w.room ho
  · have e : st.fail keep = (150, st) := if_pos hd.off
    rw [e]; exact hd
/-- What is told behind it, and what is there then. -/
structure Af (st : Ds) (r : List (List UInt8)) (S : List Sg) (b : Int) (lb : List UInt8) (su : Nat) (bs : List (List UInt8)) (n : Nat) (er : Int) : Prop where
  fz : Fz st S b lb su
  rows : rowsS lb = (bs, n, er)
  le : n ≤ lb.length
  er : er = 0 → n = lb.length
  small : ∀ f ∈ st.F, f.b.length ≤ 99999
  all : recsOf S ++ bs = r
  num : b + (bs.length : Int) = 1 + (r.length : Int)
  short : ∀ x ∈ bs, x.length ≤ 100000
theorem Dd.power {sure : Int} (h : Dd st all sure) (hc : costS all ≤ 10000) : ∃ r S b lb su bs n er, Af st.power r S b lb su bs n er ∧ r <+: all ∧ sure ≤ (r.length : Int) := by
  obtain ⟨S, b, rl, k, hF, hch, h1, h2, hk, hpre, ⟨j, j1, j2, j3⟩, hsh, ho⟩ := h.ex
  have hcp : costS (recsOf S ++ rl) ≤ 10000 := by
    rw [List.prefix_iff_eq_take.1 hpre]
    exact Nat.le_trans (cost_take _ _) hc
  have hfr := cost_frames _ hcp
  have hbl : ∀ x ∈ rl, x.length ≤ 1048576 := fun x hx => by have := hsh x (List.mem_append.2 (.inr hx)); omega
  obtain ⟨m, m1, m2, m3, m4⟩ := rowsS_torn rl hbl k hk
  have hsm : ∀ f ∈ filesS S b rl 0, f.b.length ≤ 99999 := files_small (st := { st with F := filesS S b rl 0 }) (S := S) (b := b) (rl := rl) (su := 0) rfl (by omega)
  refine ⟨recsOf S ++ rl.take m, S, b, (framesS rl).take k, k, rl.take m, endS rl m, _, ⟨⟨hF, rfl, h.plan, hch, h1, h2, fun s hs x hx => ?_⟩, m4, ?_, fun e => ?_, fun f hf => ?_, rfl, ?_, fun x hx => hsh x (List.mem_append.2 (.inr (List.mem_of_mem_take hx)))⟩, ?_, ?_⟩
  · have := hsh x (List.mem_append.2 (.inl (List.mem_flatMap.2 ⟨s, hs, hx⟩))); omega
  · rw [List.length_take]; omega
  · rw [List.length_take]
    split at e
    · omega
    · exact absurd e (by decide)
  · have hf : f ∈ S.map sgF ++ [⟨nameW 119 b, (framesS rl).take k, k⟩] := by rw [← hF]; exact hf
    rcases List.mem_append.1 hf with hf | hf
    · exact hsm f (List.mem_append.2 (.inl hf))
    · rw [List.mem_singleton] at hf
      subst hf
      have := hsm ⟨nameW 119 b, framesS rl, 0⟩ (List.mem_append.2 (.inr (List.mem_singleton.2 rfl)))
      show ((framesS rl).take k).length ≤ _
      rw [List.length_take]
      have h9 : (framesS rl).length ≤ 99999 := this
      omega
  · rw [List.length_append, ho]; omega
  · exact (List.prefix_append_right_inj _ |>.2 (List.take_prefix _ _)).trans hpre
  · have hjm : j ≤ m := by
      by_cases hm : m < rl.length
      · have h3 := m3 hm
        by_cases hjm : j ≤ m
        · exact hjm
        · exfalso
          have h4 : endS rl (m + 1) ≤ endS rl j := by
            unfold endS
            have e : rl.take (m + 1) = (rl.take j).take (m + 1) := by rw [List.take_take, Nat.min_eq_left (by omega)]
            have e2 : rl.take j = (rl.take j).take (m + 1) ++ (rl.take j).drop (m + 1) := (List.take_append_drop _ _).symm
            rw [e2, ← e]
            have : framesS (rl.take (m + 1) ++ (rl.take j).drop (m + 1)) = framesS (rl.take (m + 1)) ++ framesS ((rl.take j).drop (m + 1)) := by simp [framesS]
            rw [this, List.length_append]
            omega
          omega
      · omega
    rw [List.length_append, List.length_take]
    omega
/-- Opened again behind a failure, nothing is lost. -/
theorem Af.again {r : List (List UInt8)} {S : List Sg} {b : Int} {lb : List UInt8} {su : Nat} {bs : List (List UInt8)} {n : Nat} {er size : Int} (h : Af st r S b lb su bs n er) {st2 : Ds} {g2 : Lg} (ho : Opd st S b lb bs n size (0, st2, g2, r)) :
    ∃ lb' su' bs' n', Af ((st2.fail 0).2.power) r S b lb' su' bs' n' 0 := by
  have e : st2.fail 0 = (0, st2.lost 0 st2.F) := if_neg (by rw [ho.on]; decide)
  obtain ⟨f1, f2, f3, f4⟩ := rows_form h.rows
  have hF : (st2.lost 0 st2.F).power.F = S.map sgF ++ [⟨nameW 119 b, framesS bs, n⟩] := by
    show st2.F.map (Fi.lose 0) = _
    rw [show st2.F = S.map sgF ++ [⟨nameW 119 b, lb.take n, n⟩] from ho.files, List.map_append, lose_segs, f1]
    congr 1
    have hl : loseN 0 (lb.take n).length n = n := by unfold loseN; omega
    show [Fi.lose 0 ⟨nameW 119 b, lb.take n, n⟩] = _
    unfold Fi.lose
    simp only
    rw [hl, List.take_take, Nat.min_self]
  rw [e]
  have hrw := rows_full bs (fun x hx => by have := h.short x hx; omega)
  refine ⟨framesS bs, n, bs, (framesS bs).length, ⟨hF, rfl, rfl, h.fz.ch, h.fz.b1, h.fz.b2, h.fz.short⟩, hrw, Nat.le_refl _, fun _ => rfl, fun f hf => ?_, h.all, h.num, h.short⟩
  rw [show (0, st2.lost 0 st2.F).2.power.F = (st2.lost 0 st2.F).power.F from rfl, hF] at hf
  rcases List.mem_append.1 hf with hf | hf
  · exact h.small f (by rw [h.fz.files]; exact List.mem_append.2 (.inl hf))
  · rw [List.mem_singleton] at hf
    subst hf
    have := h.small ⟨nameW 119 b, lb, su⟩ (by rw [h.fz.files]; exact List.mem_append.2 (.inr (List.mem_singleton.2 rfl)))
    have h9 : lb.length ≤ 99999 := this
    show (framesS bs).length ≤ _
    rw [f1, List.length_take]
    omega
end
end Go.Proofs.YtioeimkaljmffaaGreatDoor
end

section
namespace Go.Proofs.YtioeimkaljmffaaGreatDoor
open Go.RowKit Go Go.Sort
set_option linter.unusedVariables false
set_option maxRecDepth 20000

/-- Slices that lie since w, in an own list. -/
def AllR (w W : World) (v : Value) (all : List (List UInt8)) : Prop := ∃ vs, W.ownsRow w.heap.size 34 1 v all.length vs ∧ ∀ i, i < all.length → ∃ ai ni ci, vs[i]? = some (.slice ai ni ci) ∧ Bys w ai ni ci (all.getD i [])
section
variable {w W W' : World} {v v' : Value} {all : List (List UInt8)}
theorem AllR.nil : AllR w W (.slice none 0 0) [] := ⟨[], World.ownsRow_nil W _ _ _, fun i hi => absurd hi (by simp)⟩
theorem AllR.lt (h : AllR w W v all) : ∀ k, v.ownBlock = some k → w.heap.size ≤ k ∧ k < W.heap.size := by
  obtain ⟨vs, h1, -⟩ := h; exact h1.lt
theorem AllR.kept (h : AllR w W v all) (hk : ∀ k, v.ownBlock = some k → W'.heap[k]? = W.heap[k]?) : AllR w W' v all := by
  obtain ⟨vs, h1, h2⟩ := h
  refine ⟨vs, ⟨h1.1, ?_⟩, h2⟩
  rcases h1.2 with hn | ⟨g, cap, cur, rfl, hb, hg, rest⟩
  · exact .inl hn
  · exact .inr ⟨g, cap, cur, rfl, hb, (hk g rfl).trans hg, rest⟩
theorem AllR.below (h : AllR w W v all) (hb : Below W.heap.size W W') : AllR w W' v all := h.kept fun k hk => hb.block k (h.lt k hk).2
theorem AllR.app {x : Option Addr} {n c : Nat} {l : List UInt8} {vs : List Value} (h2 : ∀ i, i < all.length → ∃ ai ni ci, vs[i]? = some (.slice ai ni ci) ∧ Bys w ai ni ci (all.getD i [])) (hl : vs.length = all.length) (hb : Bys w x n c l) (hr : W'.ownsRow w.heap.size 34 1 v' (all.length + 1) (vs ++ [.slice x n c])) : AllR w W' v' (all ++ [l]) := by
  refine ⟨vs ++ [.slice x n c], by rw [List.length_append, List.length_singleton]; exact hr, fun i hi => ?_⟩
  rw [List.length_append, List.length_singleton] at hi
  by_cases e : i < all.length
  · obtain ⟨ai, ni, ci, h3, h4⟩ := h2 i e
    refine ⟨ai, ni, ci, by rw [List.getElem?_append_left (by omega)]; exact h3, ?_⟩
    rw [List.getD_eq_getElem?_getD, List.getElem?_append_left e, ← List.getD_eq_getElem?_getD]; exact h4
  · obtain rfl : i = all.length := by omega
    refine ⟨x, n, c, by rw [← hl]; simp, ?_⟩
    simpa using hb
theorem AllR.rws (h : AllR w W v all) (hb : Below w.heap.size w W) : ∃ a cap, v = .slice a all.length cap ∧ Rws W a all.length cap all := by
  obtain ⟨vs, h1, h2⟩ := h
  rcases h1.2 with ⟨rfl, hn⟩ | ⟨g, cap, cur, rfl, hB, hg, hnc, hcm, hcs, htake⟩
  · exact ⟨none, 0, by rw [hn], rfl, by omega, by omega, .inl rfl⟩
  · refine ⟨some ⟨g, 0, none⟩, cap, rfl, rfl, hnc, by unfold maxLen at hcm; omega, .inr ⟨g, 0, rfl, fun i hi => ?_⟩⟩
    obtain ⟨ai, ni, ci, h3, h4⟩ := h2 i hi
    refine ⟨ai, ni, ci, ?_, h4.below hb⟩
    have h5 := h1.cells (g := g) rfl i _ h3
    rw [← h5]
    congr 1
    by_cases h0 : i = 0
    · subst h0; simp [Addr.add]
    · simp [Addr.add, h0]
end
section
variable {Xp : Nat → Prop} {Vw w0 W W' : World} {q p : Nat} {st : Ds} {g : Lg} {v v' : Value}
theorem Wx.again (h : Wx Xp Vw w0 q p st g W) : Wx Xp W w0 q p st g W := by
  obtain ⟨F, G, h1, h2, h3, h4, h5, h6, hx⟩ := h
  exact ⟨F, G, h1, h2, h3, h4, h5, h6, fun k hk => ⟨(hx k hk).1, (hx k hk).2.1, (hx k hk).2.2.1, rfl⟩⟩
theorem Wx.grown (h : Wx (fun k => v.ownBlock = some k) Vw w0 q p st g W) (hlt : ∀ k, v.ownBlock = some k → w0.heap.size ≤ k) (hg : W.grownBy W' v.ownBlock) (hl' : ∀ k, v'.ownBlock = some k → k < W'.heap.size) (hat : v'.ownBlock = v.ownBlock ∨ v'.ownBlock = some W.heap.size) : Wx (fun k => v'.ownBlock = some k) W' w0 q p st g W' := by
  obtain ⟨F, G, hd, hr, h3, h4, h5, h6, hx⟩ := h
  refine ⟨F, G, wdk_keep hd (fun k hk => hg.block k (wdk_lt hd hk) fun e => (hx k e.symm).1 hk), hr.keep (fun k hk => hg.block k (hr.lt hk) fun e => (hx k e.symm).2.1 hk), h3, h4, h5, h6.grown hg h6.size (fun z e => hlt z e), fun k hk => ?_⟩
  rcases hat with e | e
  · have := hx k (e ▸ hk); exact ⟨this.1, this.2.1, hl' k hk, rfl⟩
  · have ek : W.heap.size = k := Option.some.inj (e.symm.trans hk)
    exact ⟨fun hf => by have := wdk_lt hd hf; omega, fun hf => by have := hr.lt hf; omega, hl' k hk, rfl⟩
/-- A log at work with a list of what was put in. -/
structure Kw (w : World) (q p c : Nat) (st : Ds) (g : Lg) (v : Value) (all : List (List UInt8)) (W : World) : Prop where
  wx : Wx (fun k => v.ownBlock = some k) W w q p st g W
  kp : Kp c st g all
  rows : AllR w W v all
section
variable {w : World} {c : Nat} {all : List (List UInt8)}
theorem Kw.b (h : Kw w q p c st g v all W) : Below w.heap.size w W := h.wx.b
theorem Kw.below (h : Kw w q p c st g v all W) (hb : Below W.heap.size W W') : Kw w q p c st g v all W' := ⟨(h.wx.below hb).again, h.kp, h.rows.below hb⟩
theorem Kw.up (h : Kw w q p c st g v all W) : Kw w q p (c + 1) st g v all W := ⟨h.wx, h.kp.up, h.rows⟩
theorem Kw.on (h : Kw w q p c st g v all W) : Calls Tryz.prog 16 #[.pointer (some ⟨p, 0, none⟩)] W (Tells (.bool (decide (st.fails = g.fails))) W) := by
  obtain ⟨F, G, hd, ⟨bv, hl, -⟩, -⟩ := h.wx.wg
  exact lon_c hl hd
/-- Log's Append while a list has been added to. -/
theorem kw_append {all0 : List (List UInt8)} (hx : Wx (fun k => v.ownBlock = some k) W w q p st g W) (hr : AllR w W v all) (hk : Kp c st g all0) (hc : c ≤ 1000) (hT : TabE w) {a : Option Addr} {n cp : Nat} {l : List UInt8} (hb : Bys W a n cp l) (hn : n ≤ 100000)
    (hcase : (st.fails = g.fails ∧ all = all0 ++ [l] ∧ costS all ≤ 10000) ∨ (¬ st.fails = g.fails ∧ all = all0)) :
    Calls Tryz.prog 17 #[.pointer (some ⟨p, 0, none⟩), .slice a n cp] W (fun e W' => ∃ r1 r2 st' g', e = .returned (.tuple #[.int .i64 r1, .int .i64 r2]) ∧ ((r1 = (all.length : Int) ∧ r2 = 0) ∨ (r1 = 0 ∧ r2 = 150)) ∧ Kw w q p (c + 1) st' g' v all W') := by
  have hkeep : ∀ {st' g' W'}, Wx (fun k => v.ownBlock = some k) W w q p st' g' W' → AllR w W' v all := fun h => hr.kept fun k hk => (h.kept k hk).2
  refine (lappend_x hx hk.gok (by omega) hT hb hn).mono fun e W' ⟨he, hw⟩ => ?_
  rcases hcase with ⟨on, rfl, hcost⟩ | ⟨off, rfl⟩
  · obtain ⟨h1, h2⟩ := hk.app hcost on
    refine ⟨(appL st g l).1.1, (appL st g l).1.2, (appL st g l).2.1, (appL st g l).2.2, he, ?_, ⟨hw.again, h2, hkeep hw⟩⟩
    rcases h1 with h1 | h1
    · left; rw [h1]; exact ⟨by simp, rfl⟩
    · right; rw [h1]; exact ⟨rfl, rfl⟩
  · rw [hk.app_off off] at he hw
    exact ⟨0, 150, st, g, he, .inr ⟨rfl, rfl⟩, hw.again, hk.up, hkeep hw⟩
theorem Kw.sync (h : Kw w q p c st g v all W) (hc : c ≤ 1000) (hT : TabE w) : Calls Tryz.prog 18 #[.pointer (some ⟨p, 0, none⟩)] W (fun e W' => ∃ r st' g', e = .returned (.int .i64 r) ∧ Kw w q p c st' g' v all W') :=
  (lsync_x h.wx h.kp.gok hT).mono fun e W' ⟨he, hw⟩ => ⟨_, _, _, he, hw.again, h.kp.sync, h.rows.kept fun k hk => (hw.kept k hk).2⟩
end
/-- A disk, and what is kept beside it. -/
def Wd (Xp : Nat → Prop) (Vw w0 : World) (q : Nat) (st : Ds) (W : World) : Prop := ∃ F, Dk W q st F ∧ (∀ k, F k → w0.heap.size ≤ k) ∧ Below w0.heap.size w0 W ∧ ∀ k, Xp k → ¬ F k ∧ k < W.heap.size ∧ W.heap[k]? = Vw.heap[k]?
theorem Wx.wd (h : Wx Xp Vw w0 q p st g W) : Wd Xp Vw w0 q st W := by
  obtain ⟨F, G, h1, -, -, h4, -, h6, hx⟩ := h
  exact ⟨F, h1, h4, h6, fun k hk => ⟨(hx k hk).1, (hx k hk).2.2⟩⟩
theorem Wd.b (h : Wd Xp Vw w0 q st W) : Below w0.heap.size w0 W := by obtain ⟨F, -, -, hb, -⟩ := h; exact hb
theorem Wd.below (h : Wd Xp Vw w0 q st W) (hb : Below W.heap.size W W') : Wd Xp Vw w0 q st W' := by
  obtain ⟨F, hd, hF, hb0, hx⟩ := h
  exact ⟨F, wdk_keep hd (fun k hk => hb.block k (wdk_lt hd hk)), hF, hb0.trans (hb.mono hb0.size), fun k hk => by
    obtain ⟨a1, a3, a4⟩ := hx k hk
    exact ⟨a1, Nat.lt_of_lt_of_le a3 hb.size, (hb.block k a3).trans a4⟩⟩
theorem wd_post {F : Nat → Prop} {st' : Ds} {e : Ending} (hF : ∀ k, F k → w0.heap.size ≤ k) (hb : Below w0.heap.size w0 W) (hx : ∀ k, Xp k → ¬ F k ∧ k < W.heap.size ∧ W.heap[k]? = Vw.heap[k]?) (h : DPost q F v st' W e W') : e = .returned v ∧ Wd Xp Vw w0 q st' W' := by
  obtain ⟨he, F', hd, ht, hf⟩ := h
  refine ⟨he, F', hd, fun k hk => (hf k hk).elim (hF k) (fun h => Nat.le_trans hb.size h), hb.trans (ht.base hb.size hF), fun k hk => ?_⟩
  obtain ⟨a1, a3, a4⟩ := hx k hk
  exact ⟨fun h => (hf k h).elim a1 (fun h => by omega), Nat.lt_of_lt_of_le a3 ht.size, (ht.block k a3 a1).trans a4⟩
theorem wd_fail (h : Wd Xp Vw w0 q st W) (keep : Int) : Calls Tryz.prog 20 #[.pointer (some ⟨q, 0, none⟩), .int .i64 keep] W (fun e W' => e = .returned (.int .i64 (st.fail keep).1) ∧ Wd Xp Vw w0 q (st.fail keep).2 W') := by
  obtain ⟨F, hd, hF, hb, hx⟩ := h
  exact (dfail_c hd keep).mono fun e W' hp => wd_post hF hb hx hp
theorem wd_power (h : Wd Xp Vw w0 q st W) : Calls Tryz.prog 21 #[.pointer (some ⟨q, 0, none⟩)] W (fun e W' => e = .returned (.int .i64 0) ∧ Wd Xp Vw w0 q st.power W') := by
  obtain ⟨F, hd, hF, hb, hx⟩ := h
  exact (dpower_c hd).mono fun e W' hp => wd_post hF hb hx hp
theorem dk_open_kept {F : Nat → Prop} (hd : Dk W q st F) (hF : ∀ k, F k → w0.heap.size ≤ k) (hb0 : Below w0.heap.size w0 W) (hT : TabE w0) {r : List (List UInt8)} {S : List Sg} {b : Int} {lb : List UInt8} {su : Nat} {bs : List (List UInt8)} {n : Nat} {er size : Int} (ha : Af st r S b lb su bs n er) (h1 : 1 ≤ size) (h2 : size ≤ 1048576) :
    Calls Tryz.prog 14 #[.pointer (some ⟨q, 0, none⟩), .int .i64 size] W (fun e W' => ∃ st2 g2, OpenKept w0 W F q st2 g2 r e W' ∧ Opd st S b lb bs n size (0, st2, g2, r)) := by
  have ho := ha.fz.open ha.rows ha.le ha.er h1 h2
  have hnf := ha.fz.nofile
  have hrd : (st.read []).2 = 152 := by
    by_cases h : (st.read []).2 = 152
    · exact h
    · have := ho.ok
      unfold openL at this
      rw [if_pos h] at this
      exact absurd this hnf
  refine (wopen_kept hd hF hb0 hT ha.small size hrd h1 h2 rfl rfl).mono fun e W' ⟨_, _, h3⟩ => ?_
  unfold openL at ho
  rw [if_neg (fun h => h hrd), if_neg (by omega)] at ho
  split at ho
  · rename_i h9
    exact absurd ho.ok h9
  · rename_i h9
    have h8 := h3 (Decidable.not_not.1 h9) ho.ok
    have hok := ho.ok
    have hrc : _ = r := ho.recs.trans ha.all
    simp only at hok hrc
    rw [hok, hrc] at ho
    rw [hrc] at h8
    exact ⟨_, _, h8, ho⟩
/-- Opened: what is told, and what is kept. -/
theorem wd_open (h : Wd Xp Vw w0 q st W) (hT : TabE w0) {r : List (List UInt8)} {S : List Sg} {b : Int} {lb : List UInt8} {su : Nat} {bs : List (List UInt8)} {n : Nat} {er size : Int} (ha : Af st r S b lb su bs n er) (h1 : 1 ≤ size) (h2 : size ≤ 1048576) :
    Calls Tryz.prog 14 #[.pointer (some ⟨q, 0, none⟩), .int .i64 size] W (fun e W' => ∃ p2 v2 st2 g2, e = .returned (.tuple #[.pointer (some ⟨p2, 0, none⟩), v2, .int .i64 0]) ∧ Wg w0 q p2 st2 g2 W' ∧ Opd st S b lb bs n size (0, st2, g2, r) ∧
      ∃ Y : Nat → Prop, Wd Y W' w0 q st2 W' ∧ (∀ W2 : World, (∀ k, Y k → W2.heap[k]? = W'.heap[k]?) → OwnRows W2 W.heap.size v2 r) ∧ ∀ k, Xp k → Y k ∧ W'.heap[k]? = Vw.heap[k]?) := by
  obtain ⟨F, hd, hF, hb, hx⟩ := h
  refine (dk_open_kept hd hF hb hT ha h1 h2).mono fun e W' ⟨st2, g2, ⟨p2, v2, he, hwg, F', G', hd', hl', h3, h4, h5, h6, h7⟩, ho⟩ => ?_
  refine ⟨p2, v2, st2, g2, he, hwg, ho, fun k => k < W'.heap.size ∧ ¬ F' k, ⟨F', hd', fun k hk => (h4 k hk).elim (hF k) (fun h => Nat.le_trans hb.size h), hwg.b, fun k hk => ⟨hk.2, hk.1, rfl⟩⟩, fun W2 hk => h7 W2 fun k hk1 hk2 => hk k ⟨hk1, hk2⟩, fun k hk => ?_⟩
  obtain ⟨a1, a3, a4⟩ := hx k hk
  have h9 := (h6 k a3 a1).trans a4
  refine ⟨⟨?_, fun h => (h4 k h).elim a1 (fun h => by omega)⟩, h9⟩
  have h10 : W.heap[k]? = W'.heap[k]? := (h6 k a3 a1).symm
  rw [Array.getElem?_eq_getElem a3] at h10
  exact (Array.getElem?_eq_some_iff.1 h10.symm).1
end
end Go.Proofs.YtioeimkaljmffaaGreatDoor
end

section
namespace Go.Proofs.YtioeimkaljmffaaGreatDoor
open Go.RowKit Go Go.Sort Go.Deep
set_option linter.unusedVariables false
set_option maxRecDepth 20000

theorem wx_arm {Xp : Nat → Prop} {Vw w0 W : World} {q p : Nat} {st : Ds} {g : Lg} (h : Wx Xp Vw w0 q p st g W) (n k : Int) (hn : n ≤ 9223372036854775807) :
    Calls Tryz.prog 15 #[.pointer (some ⟨q, 0, none⟩), .int .i64 n, .int .i64 k] W (fun e W' => e = .returned (.int .i64 (st.arm n k).1) ∧ Wx Xp Vw w0 q p (st.arm n k).2 g W') := by
  obtain ⟨F, G, hd, hr, h1, h2, h3, hb, hx⟩ := h
  refine (darm_c hd n k hn).mono fun e W' hp => ?_
  obtain ⟨he, hw⟩ := Lw.disk (w1 := W) (F0 := F) (G0 := G) hr h1 (fun k hk => .inl hk) (fun k hk => .inl hk) Trn.refl hp
  exact ⟨he, wx_of h2 h3 hb hx hw⟩
theorem Wg.wx0 {w0 W : World} {q p : Nat} {st : Ds} {g : Lg} (h : Wg w0 q p st g W) : Wx (fun k => (Value.slice none 0 0).ownBlock = some k) W w0 q p st g W := by
  obtain ⟨F, G, h1, h2, h3, h4, h5, h6⟩ := h
  exact ⟨F, G, h1, h2, h3, h4, h5, h6, fun k hk => by simp [Value.ownBlock] at hk⟩
theorem arm21 (n k : Int) (h : 0 ≤ n) : s21.arm n k = (0, { s21 with plan := true, pn := n, keep := k }) := by
  unfold Ds.arm
  rw [if_neg (by decide), if_neg (by omega)]
theorem kp21 {n k size : Int} (h0 : 0 ≤ n) (h1 : n ≤ 79) (hs : 0 ≤ size ∧ size ≤ 1048576) : Kp 0 { s21 with plan := true, pn := n, keep := k } (g21 size) [] := by
  have w := wk21 size
  have w' : Wk { s21 with plan := true, pn := n, keep := k } (g21 size) [] 1 [] 0 := ⟨w.files, w.on, w.room, w.ch, w.b1, w.B, w.nx, w.mx, w.sz, w.fl, w.sux, w.sure, w.short⟩
  refine ⟨(w'.gok (n := 100) (by simp) (by simp [framesS]) hs).mono (by omega), by simp [costS], .inl ⟨rfl, rfl, h0, [], 1, [], 0, w', rfl, by simp; omega, by simp [recsOf]⟩⟩
theorem costA_len : ∀ (L : List Ac), 50 * L.length ≤ costA L
  | [] => by simp
  | x :: r => by
    have := costA_len r
    simp only [costA, List.map_cons, List.sum_cons, List.length_cons] at this ⊢
    omega
theorem costA_take (L : List Ac) (j : Nat) : costA (L.take j) ≤ costA L := by
  have e : L = L.take j ++ L.drop j := (List.take_append_drop j L).symm
  have h9 : ∀ a b : List Ac, costA (a ++ b) = costA a + costA b := fun a b => by simp [costA]
  have h := h9 (L.take j) (L.drop j)
  rw [← e] at h
  omega
set_option maxRecDepth 100000 in
set_option maxHeartbeats 12800000 in
theorem wkeeps_walk {w : World} {size n keep : Int} {a : Option Addr} {m cap : Nat} {L : List Ac} (ha : Acs w a m cap L) (hT : TabE w) :
    Calls Tryz.prog 4 #[.int .i64 size, .slice a m cap, .int .i64 n, .int .i64 keep] w (Tells (.bool true) w) := by
  have hle := ha.le
  have hmax := ha.max
  have HLL := Lib.hid ha.len
  have HL := Lib.hid ha
  have HLT := Lib.hid (wlight_c ha)
  have HTE := Lib.hid hT
  have HLV := Lib.hid (fun W (hb : Below w.heap.size w W) => wlives_c (hT.grown hb))
  clear ha hT
  obtain ⟨q3, hq3, hq3a, hq3b⟩ := umodW size 200 (by omega) (by omega)
  obtain ⟨sz, hsz⟩ : ∃ z, 1 + q3 = z := ⟨_, rfl⟩
  have HSZ := Lib.hid (show 1 ≤ sz ∧ sz ≤ 1048576 by omega)
  have hws : IntKind.i64.wrap (1 + q3) = sz := by rw [IntKind.wrap_i64]; omega
  obtain ⟨q8, hq8, hq8a, hq8b⟩ := umodW n 80 (by omega) (by omega)
  have HQ8 := Lib.hid (show 0 ≤ q8 ∧ q8 ≤ 79 by omega)
  clear hsz hq3a hq3b hq8a hq8b
  obtain ⟨i8, gi, gz0, gz1, gz2⟩ := info_parts Tryz.info34
  go_enter Tryz.func4, Tryz.ntmps4
  go_upto_region 1 with (fail)
  go_upto_region 3 with (go_at_call 9; (with_reducible refine HLT.out.mono ?_); rintro e1 w1 ⟨b1, rfl, hb1, hB1⟩; have HB1 := Lib.hid hB1; have HLI := Lib.hid hb1; clear hB1 hb1; cases b1)
  · go_wp2_with (go_at_call 10; (with_reducible refine (HLV.out _ HB1.out).mono ?_); rintro e8 w8 ⟨rfl, hb8⟩)
    go_ret
    exact ⟨rfl, HB1.out.trans (hb8.mono HB1.out.size)⟩
  · have hcost : costA L ≤ 10000 := by first | exact HLI.out rfl | exact HLI.out trivial
    have HCO := Lib.hid hcost
    clear hcost HLI
    have HT1 := Lib.hid (HTE.out.grown HB1.out)
    have HL1 := Lib.hid (HL.out.below HB1.out)
    have HLV1 := Lib.hid (fun W (hb : Below w1.heap.size w1 W) => HLV.out W (HB1.out.trans (hb.mono HB1.out.size)))
    clear HTE HL HLV HLT
    go_upto_region 5 with (first
      | (go_at_call 7; (with_reducible refine (lv_new 1048576 _ (by omega) (by omega)).mono ?_); rintro e2 w2 ⟨q, rfl, hl2⟩; have HL2 := Lib.hid hl2; clear hl2)
      | (go_at_call 14; (with_reducible refine (lv_open HL2.out HT1.out HSZ.out.1 HSZ.out.2).mono ?_); rintro e3 w3 ⟨p, rfl, hw3⟩; have HW3 := Lib.hid hw3; clear hw3))
    have HAR := Lib.hid (wx_arm HW3.out.wx0 q8 keep (by have := HQ8.out; omega))
    rw [arm21 q8 keep HQ8.out.1] at HAR
    go_upto_region 8 with (go_at_call 15; (with_reducible refine HAR.out.mono ?_); rintro e4 w4 ⟨rfl, hx4⟩; have HX4 := Lib.hid hx4; clear hx4)
    have HK4 := Lib.hid (show Kw w1 q p 0 { s21 with plan := true, pn := q8, keep := keep } (g21 sz) (.slice none 0 0) [] w4 from ⟨HX4.out.again, kp21 HQ8.out.1 HQ8.out.2 (by have := HSZ.out; omega), AllR.nil⟩)
    clear HAR HX4 HW3 HL2
    go_upto_region 9 with (fail)
    go_loopw [13, 57] (fun v i wr => ∃ (j : Nat) (st : Ds) (g : Lg) (all : List (List UInt8)), j ≤ m ∧ i = .int .i64 (j : Int) ∧ Kw w1 q p j st g v all wr ∧ costS all ≤ costA (L.take j)) (fun _ i _ => m - (intOf i).toNat)
    case atStart => exact ⟨0, _, _, [], by omega, rfl, HK4.out, by simp [costS]⟩
    case round =>
      obtain ⟨j, st, g, all, hj, rfl, hk, hc⟩ := hrel
      have HK := Lib.hid hk
      have HC := Lib.hid hc
      clear hk hc HK4
      by_cases hlt : j < m
      · have hji : (j : Int) < (m : Int) := by omega
        have hjc : (j : Int) < (cap : Int) := by omega
        obtain ⟨bl, off, x, c, rfl, hy, hk1, hn1, hat⟩ := HL1.out.place hlt
        obtain ⟨c0, c1, c2, c3, c4⟩ := hat wr HK.out.b
        have htk := takeAc_snoc (l := L) (i := j) (by have := HLL.out; omega)
        obtain ⟨A, hA⟩ : ∃ z, L.getD j Ac.zero = z := ⟨_, rfl⟩
        rw [hA] at hy c0 c1 c2 c3 c4 htk
        have hcA : costA (L.take (j + 1)) = costA (L.take j) + (50 + A.l.length) := by rw [htk, costA_snoc]
        have HCA := Lib.hid (show costA (L.take j) + (50 + A.l.length) ≤ 10000 by rw [← hcA]; exact Nat.le_trans (costA_take L _) HCO.out)
        have HCB := Lib.hid hcA
        have HJ := Lib.hid (show j ≤ 200 from by
          have h1 := costA_len (L.take j)
          have h2 := HCA.out
          rw [List.length_take] at h1
          have h3 := HLL.out
          omega)
        have HYL := Lib.hid (show A.l.length ≤ 10000 by have := HCA.out; omega)
        obtain ⟨tx, htx⟩ : ∃ z, text A.nm = z := ⟨_, rfl⟩
        obtain ⟨al, hal⟩ : ∃ z, A.l.length = z := ⟨_, rfl⟩
        obtain ⟨kd, hkd⟩ : ∃ z, A.kd = z := ⟨_, rfl⟩
        obtain ⟨an, han⟩ : ∃ z, A.n = z := ⟨_, rfl⟩
        obtain ⟨ak, hak⟩ : ∃ z, A.kp = z := ⟨_, rfl⟩
        rw [htx] at c2
        rw [hal] at c1 hy HYL
        rw [hkd] at c0
        rw [han] at c3
        rw [hak] at c4
        have HAL := Lib.hid hal
        have HY := Lib.hid hy
        clear hat hk1 hn1 hA htx hal hkd han hak hcA htk hy
        have hbx := alloc_below wr (.cells #[.int .i64 kd, .slice x al c, .string tx, .int .i64 an, .int .i64 ak] 36)
        have hxx := heap_alloc_new wr (.cells #[.int .i64 kd, .slice x al c, .string tx, .int .i64 an, .int .i64 ak] 36)
        have HK1 := Lib.hid (HK.out.below hbx)
        have HVB := Lib.hid (show ∀ k, u13.ownBlock = some k → k < wr.heap.size from fun k hk => (HK.out.rows.lt k hk).2)
        go_upto_region 11 with (fail)
        obtain ⟨gx, hgx⟩ : ∃ z, wr.heap.size = z := ⟨_, rfl⟩
        rw [hgx] at hxx HVB ⊢
        have HGX := Lib.hid (show gx < (wr.alloc (.cells #[.int .i64 kd, .slice x al c, .string tx, .int .i64 an, .int .i64 ak] 36)).heap.size from (Array.getElem?_eq_some_iff.1 hxx).1)
        clear c0 c1 c2 c3 c4 hbx hgx HK
        generalize wr.alloc (.cells #[.int .i64 kd, .slice x al c, .string tx, .int .i64 an, .int .i64 ak] 36) = W1 at *
        have x0 : W1.cell? ⟨gx, 0, none⟩ = some (.int .i64 kd) := by rw [cell_of_row _ gx 0 _ _ (0, 0) hxx]; rfl
        have x1 : W1.cell? ⟨gx, 1, none⟩ = some (.slice x al c) := by rw [cell_of_row _ gx 1 _ _ (0, 0) hxx]; rfl
        have HXX := Lib.hid hxx
        clear hxx
        by_cases hk0 : kd = 0
        · subst hk0
          by_cases on : st.fails = g.fails
          · have HON := Lib.hid HK1.out.on
            rw [decide_eq_true on] at HON
            have HF := Lib.hid on
            clear on
            go_upto_region 14 with (go_at_call 16; (with_reducible refine HON.out.mono ?_); rintro e5 w5 ⟨rfl, hb5⟩; have HB5 := Lib.hid hb5; clear hb5)
            have HK2 := Lib.hid (HK1.out.below HB5.out)
            have hxx5 : w5.heap[gx]? = some (.cells #[.int .i64 0, .slice x al c, .string tx, .int .i64 an, .int .i64 ak] 36 (0, 0)) := (HB5.out.block gx HGX.out).trans HXX.out
            have x1 : w5.cell? ⟨gx, 1, none⟩ = some (.slice x al c) := by rw [cell_of_row _ gx 1 _ _ (0, 0) hxx5]; rfl
            obtain ⟨vs, hvs, hve⟩ := HK2.out.rows
            have hclen := costS_len all
            have hall : all.length ≤ 500 := by have := HK2.out.kp.cost; omega
            have hvl : vs.length = all.length := by have := hvs.1; omega
            have HVE := Lib.hid hve
            have HHX := Lib.hid hxx5
            have hbw := HK2.out.b
            have hsz9 := hbw.size
            clear hve hclen hxx5
            go_upto_region 15 with (at_builtin; go_loud (refine wpList_append_own_at _ rfl (.tmp 67) (.tmp 70) 39 rfl w1.heap.size 34 i8 (.slice none 0 0) 1 24 Tryz.underlying39 gi gz0 gz1 gz2 rfl (by decide) _ _ _ rfl (hvs.alloc _) ⟨w5.heap.size, 0, none⟩ 1 1 [.slice x al c] rfl rfl (cell_one_new _ _ _) (by simp [Value.oneCell']) (by unfold maxLen; omega) (by omega) (by simp; omega) ?_); intro v3 w3 hown3 hg3 _ hat3)
            have hba := alloc_below w5 (.cells #[.slice x al c] 34)
            have hlt5 : gx < w5.heap.size := Nat.lt_of_lt_of_le HGX.out HB5.out.size
            have hrw3 := AllR.app (all := all) HVE.out hvl HY.out hown3
            have hwx3 := ((HK2.out.below hba).wx).grown (fun k hk => (HK2.out.rows.lt k hk).1) hg3 (fun k hk => (hrw3.lt k hk).2) hat3
            have hxx3 : w3.heap[gx]? = some (.cells #[.int .i64 0, .slice x al c, .string tx, .int .i64 an, .int .i64 ak] 36 (0, 0)) := by
              rw [hg3.block gx (by simp; omega) (fun e => by have := HVB.out gx e.symm; omega), hba.block gx hlt5]
              exact HHX.out
            have x1 : w3.cell? ⟨gx, 1, none⟩ = some (.slice x al c) := by rw [cell_of_row _ gx 1 _ _ (0, 0) hxx3]; rfl
            have HCC := Lib.hid (show costS (all ++ [A.l]) ≤ costA (L.take (j + 1)) from by
              rw [costS_snoc, HCB.out]
              have := HC.out
              omega)
            have HAP := Lib.hid (kw_append hwx3 hrw3 HK2.out.kp (by have := HJ.out; omega) HT1.out (HY.out.below hwx3.b) (by have := HYL.out; omega) (.inl ⟨HF.out, rfl, by have := HCC.out; have := HCB.out; have := HCA.out; omega⟩))
            obtain ⟨a3, c3, ev3, hrws3⟩ := hrw3.rws hwx3.b
            obtain ⟨na, hna⟩ : ∃ z, (all ++ [A.l]).length = z := ⟨_, rfl⟩
            rw [hna] at ev3 HAP
            subst ev3
            clear hba hlt5 hwx3 hxx3 hrw3 hrws3 hown3 hg3 hat3 hvs hbw hsz9 hvl hall
            go_upto_region 16 with (go_at_call 17; (with_reducible refine HAP.out.mono ?_); rintro e6 w6 ⟨r1, r2, st5, g5, rfl, hrr, hk5⟩; have HK5 := Lib.hid hk5; have HRR := Lib.hid hrr; clear hk5 hrr)
            rcases HRR.out with ⟨rfl, rfl⟩ | ⟨rfl, rfl⟩
            · go_wp2_with (fail)
              go_roundw
              case rel => exact ⟨j + 1, _, _, _, by omega, by go_num, HK5.out, HCC.out⟩
              case measure => simp [intOf]; omega
            · go_wp2_with (fail)
              go_roundw
              case rel => exact ⟨j + 1, _, _, _, by omega, by go_num, HK5.out, HCC.out⟩
              case measure => simp [intOf]; omega
          · have HON := Lib.hid HK1.out.on
            rw [decide_eq_false on] at HON
            have HF := Lib.hid on
            clear on
            go_upto_region 15 with (go_at_call 16; (with_reducible refine HON.out.mono ?_); rintro e5 w5 ⟨rfl, hb5⟩; have HB5 := Lib.hid hb5; clear hb5)
            have HK2 := Lib.hid (HK1.out.below HB5.out)
            have x1 : w5.cell? ⟨gx, 1, none⟩ = some (.slice x al c) := (HB5.out.cell HGX.out).trans x1
            have HAP := Lib.hid (kw_append HK2.out.wx HK2.out.rows HK2.out.kp (by have := HJ.out; omega) HT1.out (HY.out.below HK2.out.b) (by have := HYL.out; omega) (.inr ⟨HF.out, rfl⟩))
            go_upto_region 16 with (go_at_call 17; (with_reducible refine HAP.out.mono ?_); rintro e6 w6 ⟨r1, r2, st5, g5, rfl, hrr, hk5⟩; have HK5 := Lib.hid hk5; have HRR := Lib.hid hrr; clear hk5 hrr)
            obtain ⟨a3, c3, ev3, hrw3⟩ := HK5.out.rows.rws HK5.out.b
            obtain ⟨na, hna⟩ : ∃ z, all.length = z := ⟨_, rfl⟩
            have hrr := HRR.out
            rw [hna] at ev3 hrr
            rcases hrr with ⟨rfl, rfl⟩ | ⟨rfl, rfl⟩
            · go_wp2_with (fail)
              go_roundw
              case rel => exact ⟨j + 1, _, _, _, by omega, by go_num, HK5.out, by have := HCB.out; have := HC.out; omega⟩
              case measure => simp [intOf]; omega
            · go_wp2_with (fail)
              go_roundw
              case rel => exact ⟨j + 1, _, _, _, by omega, by go_num, HK5.out, by have := HCB.out; have := HC.out; omega⟩
              case measure => simp [intOf]; omega
        · by_cases hk1 : kd = 1
          · subst hk1
            have HSY := Lib.hid (HK1.out.sync (by have := HJ.out; omega) HT1.out)
            go_wp2_with (go_at_call 18; (with_reducible refine HSY.out.mono ?_); rintro e5 w5 ⟨r5, st5, g5, rfl, hk5⟩; have HK5 := Lib.hid hk5.up; clear hk5)
            go_roundw
            case rel => exact ⟨j + 1, _, _, _, by omega, by go_num, HK5.out, by have := HCB.out; have := HC.out; omega⟩
            case measure => simp [intOf]; omega
          · have hb0 : (kd == 0) = false := by rw [beq_eq_false_iff_ne]; exact hk0
            have hb1 : (kd == 1) = false := by rw [beq_eq_false_iff_ne]; exact hk1
            go_wp2_with (fail)
            go_roundw
            case rel => exact ⟨j + 1, _, _, _, by omega, by go_num, HK1.out.up, by have := HCB.out; have := HC.out; omega⟩
            case measure => simp [intOf]; omega
      · obtain rfl : j = m := by omega
        have hji : ¬ (j : Int) < (j : Int) := by omega
        have HSU := Lib.hid (wg_sure HK.out.wx.wg)
        go_upto_region 24 with (go_at_call 19; (with_reducible refine HSU.out.mono ?_); rintro e5 w5 ⟨rfl, hb5⟩; have HK5 := Lib.hid (HK.out.below hb5); clear hb5)
        clear HSU HK HC
        obtain ⟨r, S, b, lb, su, bs, nn, er, haf, hpre, hsure⟩ := (HK5.out.kp.lost keep).power HK5.out.kp.cost
        obtain ⟨sv, hsv⟩ : ∃ z, g.sure = z := ⟨_, rfl⟩
        rw [hsv] at hsure ⊢
        have HAF := Lib.hid haf
        have HPRE := Lib.hid hpre
        have HSURE := Lib.hid hsure
        have HFA := Lib.hid (wd_fail HK5.out.wx.wd keep)
        clear haf hpre hsure hsv
        go_upto_region 25 with (go_at_call 20; (with_reducible refine HFA.out.mono ?_); rintro e6 w6 ⟨rfl, hw6⟩; have HPO := Lib.hid (wd_power hw6); clear hw6)
        clear HFA
        go_upto_region 26 with (go_at_call 21; (with_reducible refine HPO.out.mono ?_); rintro e7 w7 ⟨rfl, hw7⟩; have HOP := Lib.hid (wd_open hw7 HT1.out HAF.out (size := 50) (by omega) (by omega)); clear hw7)
        clear HPO
        go_upto_region 27 with (go_at_call 14; (with_reducible refine HOP.out.mono ?_); rintro e8 w8 ⟨p2, v2, st2, g2, rfl, hwg, ho, Y, hY, hrows, hX⟩; have HWG := Lib.hid hwg; have HO := Lib.hid ho; have HY8 := Lib.hid hY; have HROWS := Lib.hid hrows; have HX := Lib.hid hX; clear hwg ho hY hrows hX)
        clear HOP
        obtain ⟨a2, c2, ev2, hr2⟩ := (HROWS.out w8 fun _ _ => rfl).rws
        obtain ⟨a3, c3, ev3, hr3⟩ := (HK5.out.rows.kept fun k hk => (HX.out k hk).2).rws HWG.out.b
        obtain ⟨nr, hnr⟩ : ∃ z, r.length = z := ⟨_, rfl⟩
        obtain ⟨na, hna⟩ : ∃ z, all.length = z := ⟨_, rfl⟩
        have hra : nr ≤ na := by rw [← hnr, ← hna]; exact HPRE.out.length_le
        have hrt : r = all.take nr := by rw [← hnr]; exact List.prefix_iff_eq_take.1 HPRE.out
        rw [hnr] at ev2 hr2
        rw [hna] at ev3 hr3
        have hsl : ¬ (nr : Int) < sv := by have := HSURE.out; rw [hnr] at this; omega
        have hgt : ¬ (na : Int) < (nr : Int) := by omega
        have hc3 := hr3.le
        have hm3 := hr3.max
        have hrc : (nr : Int) ≤ (c3 : Int) ∧ nr ≤ c3 := by omega
        have hm2 := hr2.max
        have hl2 := hr2.le
        have HNR := Lib.hid hnr
        have HSM := Lib.hid (show Calls Tryz.prog 22 #[.slice a2 nr c2, .slice a3 nr c3] w8 (BoolPost true w8) from by
          have h9 := same_c hr2 (hr3.take hra)
          rw [decide_eq_true hrt] at h9
          exact h9)
        have HNE := Lib.hid (fun (W : World) (hw : Wg w1 q p2 st2 g2 W) => (show Calls Tryz.prog 23 #[.pointer (some ⟨p2, 0, none⟩)] W (Tells (.int .i64 ((nr : Int) + 1)) W) from by
          have h9 := wg_next hw
          rw [show g2.next = (nr : Int) + 1 from by have h1 : g2.next = _ := HO.out.next; have h2 := HAF.out.num; rw [hnr] at h2; omega] at h9
          exact h9))
        have HSE := Lib.hid (fun (W : World) (hw : Wg w1 q p2 st2 g2 W) => (show Calls Tryz.prog 19 #[.pointer (some ⟨p2, 0, none⟩)] W (Tells (.int .i64 (nr : Int)) W) from by
          have h9 := wg_sure hw
          rw [show g2.sure = (nr : Int) from by have h1 : g2.sure = _ := HO.out.sure; have h2 := HAF.out.num; rw [hnr] at h2; omega] at h9
          exact h9))
        have hw1 : IntKind.i64.wrap ((nr : Int) + 1) = (nr : Int) + 1 := by
          have h1 := costS_len all
          have h2 := HK5.out.kp.cost
          rw [IntKind.wrap_i64]; omega
        have HVV := Lib.hid ev2
        clear hrt hr2 hr3 hnr hna
        subst ev2 ev3
        go_upto_region 29 with (first
          | (go_at_call 22; (with_reducible refine HSM.out.mono ?_); rintro e9 w9 ⟨rfl, hb9⟩; have HB9 := Lib.hid hb9; have HW9 := Lib.hid (HWG.out.below hb9); clear hb9)
          | (go_at_call 23; (with_reducible refine (HNE.out _ HW9.out).mono ?_); rintro e10 w10 ⟨rfl, hb10⟩; have HB10 := Lib.hid (HB9.out.trans (hb10.mono HB9.out.size)); have HW10 := Lib.hid (HW9.out.below hb10); clear hb10)
          | (go_at_call 19; (with_reducible refine (HSE.out _ HW10.out).mono ?_); rintro e11 w11 ⟨rfl, hb11⟩; have HB11 := Lib.hid (HB10.out.trans (hb11.mono HB10.out.size)); clear hb11))
        have HFB := Lib.hid (wd_fail (HY8.out.below HB11.out) 0)
        obtain ⟨lb', su', bs', n', haf2⟩ := HAF.out.again HO.out
        have HAF2 := Lib.hid haf2
        clear haf2 HSM HNE HSE
        go_upto_region 30 with (go_at_call 20; (with_reducible refine HFB.out.mono ?_); rintro e12 w12 ⟨rfl, hw12⟩; have HPB := Lib.hid (wd_power hw12); clear hw12)
        clear HFB
        go_upto_region 31 with (go_at_call 21; (with_reducible refine HPB.out.mono ?_); rintro e13 w13 ⟨rfl, hw13⟩; have HOB := Lib.hid (wd_open hw13 HT1.out HAF2.out (size := 70) (by omega) (by omega)); clear hw13)
        clear HPB
        go_upto_region 32 with (go_at_call 14; (with_reducible refine HOB.out.mono ?_); rintro e14 w14 ⟨p4, v4, st4, g4, rfl, hwg4, -, Y4, -, hrows4, hX4⟩; have HWG4 := Lib.hid hwg4; have HROWS4 := Lib.hid hrows4; have HX4 := Lib.hid hX4; clear hwg4 hrows4 hX4)
        clear HOB
        obtain ⟨a4, c4, ev4, hr4⟩ := (HROWS4.out w14 fun _ _ => rfl).rws
        obtain ⟨a5, c5, ev5, hr5⟩ := (HROWS.out w14 fun k hk => (HX4.out k hk).2).rws
        rw [HNR.out] at ev4 hr4 ev5 hr5
        obtain ⟨rfl, rfl⟩ : a2 = a5 ∧ c2 = c5 := by injection ev5 with e1 e2 e3; exact ⟨e1, e3⟩
        subst ev4
        have HSM := Lib.hid (show Calls Tryz.prog 22 #[.slice a4 nr c4, .slice a2 nr c2] w14 (BoolPost true w14) from by
          have h9 := same_c hr4 hr5
          rw [decide_eq_true rfl] at h9
          exact h9)
        clear hr4 hr5 ev5
        go_wp2_with (first
          | (go_at_call 22; (with_reducible refine HSM.out.mono ?_); rintro e15 w15 ⟨rfl, hb15⟩; have HB15 := Lib.hid (HWG4.out.b.trans (hb15.mono HWG4.out.b.size)); clear hb15)
          | (go_at_call 10; (with_reducible refine (HLV1.out _ HB15.out).mono ?_); rintro e20 w20 ⟨rfl, hb20⟩))
        go_ret
        exact ⟨rfl, HB1.out.trans ((HB15.out.trans (hb20.mono HB15.out.size)).mono HB1.out.size)⟩
end Go.Proofs.YtioeimkaljmffaaGreatDoor
end

