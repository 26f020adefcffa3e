/-
  Merged: H4 H5 H7 A2 A3 N3 B3 AA B5 A6 AB AC AH AI.
-/
import Derived.Deep.QuietTactic
import Derived.StillTail
import Derived.Lib.QuietBelow
import Derived.Test.YtidbjmkfmfojdaaRows
import Derived.WalkKit
import Derived.Lib.Hide
import Derived.BigQuiet
import Derived.BigRegion
import Derived.Deep.Cut
import Derived.Deep.MidRow
import Derived.Great.BuildSlice
import Derived.Outline
import Derived.OwnWalk
import Derived.Laws.Rows
import Derived.ChangeKeysEq
import Derived.Laws.StructEq
import Derived.WalkSpells
import Derived.WalkLawsBesides
import Derived.Laws.CopyOwn
import Derived.WalkSmall
import Derived.Lib.LaidTab
import Derived.Deep.RegionWith
import Derived.Lib.MinMax
import Derived.WideShapes
import Derived.ChangeSame
import Derived.OpenShut
import Derived.Deep.Slices
import Derived.Deep.AppendSrc
import Derived.Lib.AppendZerosOnto
import Derived.Lib.SliceRun
import Derived.Lib.Walk
import Derived.Lib.OthersKept
import Derived.Laws.RangeAny
import Derived.Maps.OwnOps
import Derived.Maps.Views
import Derived.ChangeSlices
import Derived.ChangeArms
import Derived.Deep.DeepAppendWide
import Derived.OrdersIn
import Derived.TacticsIn
import Derived.RangeFuncNested
import Derived.RangeFuncBound
import Derived.RangeFuncCalls
import Derived.RangeFuncLeaves
import Derived.Maps.AppendAt
import Derived.Shelf.Abstract
import Derived.OwnWalkIn
import Derived.TacticsInMore
import Derived.LoopNIn
import Derived.LoopIn
import Derived.Test.YtidbjmkfmfojdaaSK3

section
namespace Go.Proofs.Ytidbjmkfmfojdaa
open Go.RowKit Go Go.Sort
set_option linter.unusedVariables false
set_option maxRecDepth 20000

theorem cof_x (p n s a b : Int) (g : Bool) (t : List UInt8) (hmax : t.length ≤ 9223372036854775807) : ∃ (n9 s9 a9 b9 : Int) (g9 : Bool) (t9 : List UInt8) (d9 e9 f9 : Int), (cofS p n s a b g t).1 = ⟨n9, s9, a9, b9, g9, t9, d9, e9⟩ ∧ ∀ w : World, Calls Try.prog 120 #[.int .i64 p, .agg #[.int .i64 n, .int .i64 s], .agg #[.int .i64 a, .int .i64 b], .bool g, .string (text t)] w (Tells (.tuple #[.agg #[.int .i64 n9, .int .i64 s9, .int .i64 a9, .int .i64 b9, .bool g9, .string (text t9), .int .i64 d9, .int .i64 e9], .int .i64 f9]) w) := by
  have h := fun w => cof_c p n s a b g t hmax w
  obtain ⟨⟨⟨n9, s9, a9, b9, g9, t9, d9, e9⟩, f9⟩, hz⟩ : ∃ z, cofS p n s a b g t = z := ⟨_, rfl⟩
  rw [hz] at h
  exact ⟨n9, s9, a9, b9, g9, t9, d9, e9, f9, by rw [hz], h⟩
theorem rownew_x {w : World} {x : Option Addr} {n1 cap : Nat} {gs : List Grp} (hg : Grs w x n1 cap gs) (hs : ∀ g ∈ gs, g.1.length ≤ 9223372036854775807) (hp : pgoodS gs = 0) (key : List UInt8) (hk : key.length ≤ 9223372036854775807) (hk0 : keyS key = 0) :
    Calls Try.prog 119 #[.slice x n1 cap, .string (text key)] w (fun e w' => ∃ u, e = .returned (.tuple #[.agg #[.string (text key), u], .int .i64 0]) ∧ OwnC w' w.heap.size u (zerosC n1) ∧ Below w.heap.size w w') := by
  have h := rownew_c hg hs key hk
  rw [new_yes hp hk0, hg.len] at h
  exact h
theorem wrow_last (gs : List Grp) (n s a b : Int) (ws : List Wr) (k : Nat) : ∃ p, (wrowN gs n s a b ws (k + 1)).length = p + 1 ∧ ((wrowN gs n s a b ws (k + 1)).getD p ([], [])).1 = (ws.getD k Wr.zero).k := by
  show ∃ p, (rowPut _ (wrowN gs n s a b ws k) _ _ _).length = p + 1 ∧ ((rowPut _ (wrowN gs n s a b ws k) _ _ _).getD p ([], [])).1 = _
  unfold rowPut
  split
  · exact ⟨(wrowN gs n s a b ws k).length, by simp, by simp [List.getD_eq_getElem?_getD]⟩
  · rename_i h
    have h1 : (wrowN gs n s a b ws k).length ≠ 0 := fun e => h (.inl e)
    refine ⟨(wrowN gs n s a b ws k).length - 1, by simp; omega, ?_⟩
    rw [List.getD_eq_getElem?_getD, List.getElem?_set, if_pos rfl, if_pos (by omega)]
    rfl
theorem may_key {n : Nat} {c : Wr} (h : mayS n c = true) : keyS c.k = 0 := by
  unfold mayS at h
  simp only [Bool.and_eq_true, decide_eq_true_eq] at h
  exact h.1
set_option maxRecDepth 100000 in
set_option maxHeartbeats 12800000 in
theorem chrows_c {w : World} {x x2 : Option Addr} {n1 cap m cap2 : Nat} {gs : List Grp} {l : List Wr} (hg : Grs w x n1 cap gs) (hs : ∀ g ∈ gs, g.1.length ≤ 9223372036854775807) (hl : Wrs w x2 m cap2 l) (hx : WShort l) (site seq n s a b : Int) :
    Calls Try.prog 94 #[.slice x n1 cap, .agg #[.int .i64 site, .int .i64 seq, .int .i64 n, .int .i64 s, .int .i64 a, .int .i64 b, .slice x2 m cap2]] w (RwsPost (chrowsS gs site seq n s a b l) n1 w) := by
  have hgl := hg.len
  have hgle := hg.le
  have hgmx := hg.max
  have hll := hl.len
  have hle2 := hl.le
  have hmax2 := hl.max
  have HGD := Lib.hid (fun W (h : Below w.heap.size w W) => chgood_c (hg.below h) hs (hl.below h) hx site seq n s a b)
  have HNW := Lib.hid (fun (hp : pgoodS gs = 0) (key : List UInt8) (hk : key.length ≤ 9223372036854775807) (hk0 : keyS key = 0) W (h : Below w.heap.size w W) => rownew_x (hg.below h) hs hp key hk hk0)
  have HIV := Lib.hid (@ch_inv gs site seq n s a b l)
  have HP := Lib.hid (show chgoodS gs site seq n s a b l = 0 → chrowsS gs site seq n s a b l = (wrowN gs n s a b l m, 0) from fun h => by unfold chrowsS; rw [if_pos h, hll])
  have HQ := Lib.hid (show ¬ chgoodS gs site seq n s a b l = 0 → chrowsS gs site seq n s a b l = ([], chgoodS gs site seq n s a b l) from fun h => by unfold chrowsS; rw [if_neg h])
  have HL := Lib.hid hl
  have HG := Lib.hid hg
  obtain ⟨RV, hRV⟩ : ∃ z, chrowsS gs site seq n s a b l = z := ⟨_, rfl⟩
  rw [hRV] at HP HQ ⊢
  obtain ⟨R, hR⟩ : ∃ z, chgoodS gs site seq n s a b l = z := ⟨_, rfl⟩
  rw [hR] at HP HQ HIV
  simp only [hR] at HGD
  have hr := heap_alloc_new w (.cells #[.int .i64 site, .int .i64 seq, .int .i64 n, .int .i64 s, .int .i64 a, .int .i64 b, .slice x2 m cap2] 91)
  have hb := alloc_below w (.cells #[.int .i64 site, .int .i64 seq, .int .i64 n, .int .i64 s, .int .i64 a, .int .i64 b, .slice x2 m cap2] 91)
  clear hRV hR hg hs hl hx
  go_enter Try.func94, Try.ntmps94
  go_upto_region 1 with (fail)
  obtain ⟨B, hB⟩ : ∃ q, w.heap.size = q := ⟨_, rfl⟩
  have HBe := Lib.hid hB
  rw [hB] at hr ⊢
  clear hB
  generalize w.alloc (.cells #[.int .i64 site, .int .i64 seq, .int .i64 n, .int .i64 s, .int .i64 a, .int .i64 b, .slice x2 m cap2] 91) = W1 at *
  obtain ⟨c0, c1, c2, c3, c4, c5, c6⟩ := ch_cells hr
  have HR1 := Lib.hid hr
  have HB1 := Lib.hid hb
  clear hr hb
  by_cases h0 : R = 0
  · subst h0
    have HRR := Lib.hid (HP.out (by first | rfl | trivial))
    obtain ⟨hp0, hhd, hall⟩ := HIV.out (by first | rfl | trivial)
    have hn4 := pgood_len hp0
    rw [hll] at hhd hall
    obtain ⟨-,-,-,-,-,-,-, hd4, hd5⟩ := head_ok hhd
    have HALL := Lib.hid hall
    have HNW := Lib.hid (HNW.out hp0)
    clear HP HQ HIV hp0 hall hhd
    go_upto_region 5 with (go_at_call 118; (with_reducible refine (HGD.out _ HB1.out).mono ?_); rintro e9 w2 ⟨rfl, hb2⟩)
    have HB2 := Lib.hid (HB1.out.trans (hb2.mono HB1.out.size))
    have HR2 := Lib.hid (heap_below HR1.out hb2)
    clear hb2 HR1 HB1 HGD c0 c1 c2 c3 c4 c5 c6
    obtain ⟨c0, c1, c2, c3, c4, c5, c6⟩ := ch_cells HR2.out
    go_upto_region 6 with (fail)
    clear c0 c1 c2 c3 c4 c5 c6
    go_loopw [7, 23] (fun o i wr => ∃ (k : Nat) (v : Value) (L : List Rw), k ≤ m ∧ i = .int .i64 (k : Int) ∧ o = v ∧ OwnRw wr w.heap.size n1 v L ∧ L.map Rw.pr = wrowN gs n s a b l k ∧ Below w.heap.size w wr ∧ wr.heap[B]? = some (.cells #[.int .i64 site, .int .i64 seq, .int .i64 n, .int .i64 s, .int .i64 a, .int .i64 b, .slice x2 m cap2] 91 (0, 0))) (fun _ i _ => m - (intOf i).toNat)
    case atStart => exact ⟨0, .slice none 0 0, [], by omega, rfl, rfl, OwnRw.nil _ _ _, rfl, HB2.out, HR2.out⟩
    case round =>
      clear HB2 HR2
      obtain ⟨k, v, L, hk, rfl, rfl, ho, hpr, hb, hr⟩ := hrel
      obtain ⟨c0, c1, c2, c3, c4, c5, c6⟩ := ch_cells hr
      have hfew := wrow_few gs n s a b l k
      rw [← hpr, List.length_map] at hfew
      obtain ⟨al, cl, ev, -⟩ := ho.at
      obtain ⟨ll, hLL⟩ : ∃ z, L.length = z := ⟨_, rfl⟩
      rw [hLL] at hfew ev
      subst ev
      have HLL := Lib.hid hLL
      have HO := Lib.hid ho
      have HPR := Lib.hid hpr
      have HBr := Lib.hid hb
      have HRr := Lib.hid hr
      clear hLL ho hpr hb hr
      by_cases hlt : k < m
      · have hki : (k : Int) < (m : Int) := by omega
        have hkc : (k : Int) < (cap2 : Int) := by omega
        obtain ⟨bl, offl, rfl, hat⟩ := HL.out.place hlt
        obtain ⟨f1, -, f2, f3, f4, -⟩ := may_few (w_at (HALL.out k hlt))
        have f5 := may_key (w_at (HALL.out k hlt))
        have HN := Lib.hid (show wrowN gs n s a b l (k + 1) = rowPut gs.length (wrowN gs n s a b l k) (l.getD k Wr.zero).k (l.getD k Wr.zero).i.toNat (cofS (gs.getD (l.getD k Wr.zero).i.toNat ([], 0)).2 n s a b (l.getD k Wr.zero).g (l.getD k Wr.zero).v).1 from rfl)
        obtain ⟨y, hy⟩ : ∃ y, l.getD k Wr.zero = y := ⟨_, rfl⟩
        rw [hy] at hat HN f1 f2 f3 f4 f5
        obtain ⟨kx, ix, gx, vx⟩ := y
        simp only at hat HN f1 f2 f3 f4 f5
        obtain ⟨ii, rfl⟩ : ∃ ii : Nat, ix = (ii : Int) := ⟨ix.toNat, by omega⟩
        rw [Int.toNat_natCast, ← HPR.out, hgl] at HN
        have hii : ii < n1 := by omega
        have hiic : (ii : Int) < (cap : Int) := by omega
        have hiin : (ii : Int) < (n1 : Int) := by omega
        obtain ⟨bg, og, rfl, hgat⟩ := HG.out.at hii
        obtain ⟨⟨gn, pk⟩, hgn⟩ : ∃ z, gs.getD ii ([], 0) = z := ⟨_, rfl⟩
        rw [hgn] at hgat HN
        simp only at hgat HN
        obtain ⟨n9, s9, a9, b9, g9, t9, d9, e9, f9, hof, hcof⟩ := cof_x pk n s a b gx vx (by omega)
        rw [hof] at HN
        have HCO := Lib.hid hcof
        have HNEW := Lib.hid (HNW.out kx (by omega) f5)
        have HAT := Lib.hid (hat _ HBr.out)
        have HGT := Lib.hid hgat
        clear hat hgat hcof hof hgn hy f1 f2 f3 f4 f5
        obtain ⟨l0, l1, l2, l3⟩ := HAT.out
        go_upto_region 8 with (fail)
        clear c0 c1 c2 c3 c4 c5 c6 l0 l1 l2 l3 HAT
        have hal := alloc_below wr (.cells #[.string (text kx), .int .i64 (ii : Int), .bool gx, .string (text vx)] 94)
        have HS9 := Lib.hid (heap_alloc_new wr (.cells #[.string (text kx), .int .i64 (ii : Int), .bool gx, .string (text vx)] 94))
        have HB9 := Lib.hid (HBr.out.trans (hal.mono HBr.out.size))
        have HR9 := Lib.hid (heap_below HRr.out hal)
        have HO9 := Lib.hid (HO.out.kept hal)
        obtain ⟨gw, hgw⟩ : ∃ z, wr.heap.size = z := ⟨_, rfl⟩
        have HGW := Lib.hid (show w.heap.size ≤ gw by rw [← hgw]; exact HBr.out.size)
        rw [hgw] at HS9 ⊢
        generalize wr.alloc (.cells #[.string (text kx), .int .i64 (ii : Int), .bool gx, .string (text vx)] 94) = W9 at *
        clear hal hgw HBr HRr HO
        have hn0 : 0 < n1 := by omega
        have hklt : ll ≤ 8 := by omega
        by_cases hl0 : k = 0
        · have HZ0 := Lib.hid (show ((k : Int) == 0) = true by simp [hl0])
          have HL0 := Lib.hid (show ll = 0 by have h := HPR.out; rw [hl0] at h; have h := congrArg List.length h; rw [List.length_map, HLL.out] at h; exact h)
          clear hl0
          refine wp_region_flow [none,none,none,none,none,none,none,none,none,none,none,none,none,none,none,none,none,none,none,none,none,none,none,none,none,none,none,none, some 0, some 1, some 2, some 3, some 4, some 5, some 6, some 7, some 8, some 9, some 10, some 11, some 12, some 13, none,none,none,none,none,none,none,none,none,none,none,none,none,none,none,none,none,none,none,none,none,none,none,none,none,none,none,none,none,none,none,none,none,none,none,none,none,none,none,none,none,none] (fun i => [u28, u29, u30, u31, u32, u33, u34, u35, u36, u37, u38, u39, u40, u41].getD i undef) [(fun v _ => v = .int .i64 (k : Int)), (fun v _ => v = .bool true), (fun v _ => v = .bool true), (fun v _ => v = undef), (fun v _ => v = undef), (fun v _ => v = undef), (fun v _ => v = undef), (fun v _ => v = undef), (fun v _ => v = undef), (fun v _ => v = undef), (fun v _ => v = undef), (fun v _ => v = undef), (fun v _ => v = undef), (fun v _ => v = .bool true)] (by kernel_rfl) (by kernel_rfl) rfl rfl rfl ?_ ?_ ?_
          · intro g hg v X Y hX hY hv
            simp only [List.mem_cons, List.not_mem_nil, or_false] at hg
            rcases hg with rfl | rfl | rfl | rfl | rfl | rfl | rfl | rfl | rfl | rfl | rfl | rfl | rfl | rfl
            all_goals first
              | exact hv
              | exact hv.kept hY
          · simp only [flowOps, and_true]
            refine ⟨?_,?_,?_,?_,?_,?_,?_,?_,?_,?_,?_,?_,?_,?_⟩
            · intro xs W hW hn
              simp only [flowAct, zwc, zwn]
              go_wp2_with (fail)
              exact ⟨rfl, _, rfl, Below.refl _ _, rfl⟩
            · intro xs W hW hn
              have hz := HZ0.out
              simp [flowNeeds, Region.binds] at hn
              simp only [flowAct, zwc, zwn]
              try simp only [hn]
              go_wp2_with (fail)
              exact ⟨rfl, _, rfl, Below.refl _ _, rfl⟩
            · intro xs W hW hn
              simp [flowNeeds, Region.binds] at hn
              simp only [flowAct, zwc, zwn]
              try simp only [hn]
              go_wp2_with (fail)
              exact ⟨rfl, _, rfl, Below.refl _ _, rfl⟩
            · intro xs W hW hn
              simp [flowNeeds, Region.binds] at hn
              simp only [flowAct, zwc, zwn]
              try simp only [hn]
              go_wp2_with (fail)
              exact ⟨rfl, _, rfl, Below.refl _ _, rfl⟩
            · intro xs W hW hn
              simp [flowNeeds, Region.binds] at hn
              simp only [flowAct, zwc, zwn]
              try simp only [hn]
              go_wp2_with (fail)
              exact ⟨rfl, _, rfl, Below.refl _ _, rfl⟩
            · intro xs W hW hn
              simp [flowNeeds, Region.binds] at hn
              simp only [flowAct, zwc, zwn]
              try simp only [hn]
              go_wp2_with (fail)
              exact ⟨rfl, _, rfl, Below.refl _ _, rfl⟩
            · intro xs W hW hn
              simp [flowNeeds, Region.binds] at hn
              simp only [flowAct, zwc, zwn]
              try simp only [hn]
              go_wp2_with (fail)
              exact ⟨rfl, _, rfl, Below.refl _ _, rfl⟩
            · intro xs W hW hn
              simp [flowNeeds, Region.binds] at hn
              simp only [flowAct, zwc, zwn]
              try simp only [hn]
              go_wp2_with (fail)
              exact ⟨rfl, _, rfl, Below.refl _ _, rfl⟩
            · intro xs W hW hn
              simp [flowNeeds, Region.binds] at hn
              simp only [flowAct, zwc, zwn]
              try simp only [hn]
              go_wp2_with (fail)
              exact ⟨rfl, _, rfl, Below.refl _ _, rfl⟩
            · intro xs W hW hn
              simp [flowNeeds, Region.binds] at hn
              simp only [flowAct, zwc, zwn]
              try simp only [hn]
              go_wp2_with (fail)
              exact ⟨rfl, _, rfl, Below.refl _ _, rfl⟩
            · intro xs W hW hn
              simp [flowNeeds, Region.binds] at hn
              simp only [flowAct, zwc, zwn]
              try simp only [hn]
              go_wp2_with (fail)
              exact ⟨rfl, _, rfl, Below.refl _ _, rfl⟩
            · intro xs W hW hn
              simp [flowNeeds, Region.binds] at hn
              simp only [flowAct, zwc, zwn]
              try simp only [hn]
              go_wp2_with (fail)
              exact ⟨rfl, _, rfl, Below.refl _ _, rfl⟩
            · intro xs W hW hn
              simp [flowNeeds, Region.binds] at hn
              simp only [flowAct, zwc, zwn]
              try simp only [hn]
              go_wp2_with (fail)
              exact ⟨rfl, _, rfl, Below.refl _ _, rfl⟩
            · intro xs W hW hn
              simp [flowNeeds, Region.binds] at hn
              simp only [flowAct, zwc, zwn]
              try simp only [hn]
              go_wp2_with (fail)
              exact ⟨rfl, _, rfl, Below.refl _ _, rfl⟩
          · intro xs W hW hall
            simp only [flowAll, and_true, Nat.zero_add, Nat.reduceAdd] at hall
            obtain ⟨-,-,-,-,-,-,-,-,-,-,-,-,-, eL⟩ := hall
            simp only [flowAct, zwc, zwn]
            simp only [eL]
            have hbk := HB9.out.trans (hW.mono HB9.out.size)
            have hrk := heap_below HR9.out hW
            have hsk := heap_below HS9.out hW
            have hok := HO9.out.kept hW
            clear eL
            obtain ⟨WK, hWK⟩ : ∃ X, W = X := ⟨_, rfl⟩
            rw [hWK] at hbk hrk hsk hok ⊢
            clear hWK hW HB9 HR9 HS9 HO9
            have HBT := Lib.hid hbk
            have HRT := Lib.hid hrk
            have HST := Lib.hid hsk
            have HOT := Lib.hid hok
            clear hbk hrk hsk hok
            obtain ⟨w0, w1, w2, w3⟩ := wr_cells HST.out
            have hzl : (zerosC n1).length = n1 := by simp [zerosC]
            have HZL := Lib.hid hzl
            go_upto_region 10 with (go_at_call 119; (with_reducible refine (HNEW.out _ HBT.out).mono ?_); rintro e9 w4 ⟨u, rfl, hou, hb4⟩; obtain ⟨gc, cc, rfl, hgcB, hccl, hgclt⟩ := own_some hou (by rw [HZL.out]; omega); rw [HZL.out] at hou hccl ⊢)
            have hal4 := alloc_below w4 (.cells #[.string (text kx), .slice (some ⟨gc, 0, none⟩) n1 cc] 30)
            have hqr := heap_alloc_new w4 (.cells #[.string (text kx), .slice (some ⟨gc, 0, none⟩) n1 cc] 30)
            have hb5 := hb4.trans (hal4.mono hb4.size)
            have HB5 := Lib.hid (HBT.out.trans (hb5.mono HBT.out.size))
            have HR5 := Lib.hid (heap_below HRT.out hb5)
            have HS5 := Lib.hid (heap_below HST.out hb5)
            have HO5 := Lib.hid (HOT.out.kept hb5)
            have HOU := Lib.hid (hou.kept hal4)
            have HLTB := Lib.hid hb5.size
            have HBT2 := Lib.hid (Nat.le_trans HBT.out.size hgcB)
            obtain ⟨qr, hqr2⟩ : ∃ z, w4.heap.size = z := ⟨_, rfl⟩
            rw [hqr2] at hqr
            try rw [hqr2]
            clear hal4 hb5 hb4 hou hgclt hqr2 w0 w1 w2 w3
            generalize w4.alloc (.cells #[.string (text kx), .slice (some ⟨gc, 0, none⟩) n1 cc] 30) = w5 at *
            obtain ⟨y0, y1⟩ := pair_cells hqr
            clear hqr
            go_upto_region 11 with (at_builtin; refine wpList_append_rw rfl _ _ rfl (u := .slice al ll cl) rfl HO5.out.row kx _ _ _ (zerosC n1) rfl (by rw [HLL.out]; omega) HB5.out.size ?_; intro v' w' ho' hg'; have hpush := HO5.out.push HZL.out HOU.out (by omega) HBT.out.size (fun j hj q hq => ((HOT.out.own j hj).1.lt q hq).2) _ ho' hg'; obtain ⟨at', ct', evt, -⟩ := hpush.at; rw [List.length_append, List.length_singleton, HLL.out] at evt; subst evt)
            have HB8 := Lib.hid ((HB5.out.alloc HB5.out.size (.cells #[.string (text kx), .slice (some ⟨gc, 0, none⟩) n1 cc] 30)).grown hg' (by simp; have := HB5.out.size; omega) (fun z e => (HO5.out.row.lt z e).1))
            have HR8 := Lib.hid (heap_grown ((Below.heap_alloc w5 (.cells #[.string (text kx), .slice (some ⟨gc, 0, none⟩) n1 cc] 30) B (Array.getElem?_eq_some_iff.1 HR5.out).1).trans HR5.out) hg' (own_ne HR5.out (by decide) HO5.out.row))
            have HS8 := Lib.hid (heap_grown ((Below.heap_alloc w5 (.cells #[.string (text kx), .slice (some ⟨gc, 0, none⟩) n1 cc] 30) gw (Array.getElem?_eq_some_iff.1 HS5.out).1).trans HS5.out) hg' (own_ne HS5.out (by decide) HO5.out.row))
            have HO8 := Lib.hid hpush
            have HLP := Lib.hid (show (L ++ [(⟨kx, .slice (some ⟨gc, 0, none⟩) n1 cc, zerosC n1⟩ : Rw)]).getD ll Rw.zero = ⟨kx, .slice (some ⟨gc, 0, none⟩) n1 cc, zerosC n1⟩ by rw [getD_push, HLL.out]; simp)
            have HPUT := Lib.hid (show ((L ++ [(⟨kx, .slice (some ⟨gc, 0, none⟩) n1 cc, zerosC n1⟩ : Rw)]).set ll (⟨kx, .slice (some ⟨gc, 0, none⟩) n1 cc, (zerosC n1).set ii ⟨n9, s9, a9, b9, g9, t9, d9, e9⟩⟩ : Rw)).map Rw.pr = wrowN gs n s a b l (k + 1) by rw [HN.out, ← HLL.out]; exact put_new rfl (.inl (HLL.out.trans HL0.out)))
            have HTL := Lib.hid (show (L ++ [(⟨kx, .slice (some ⟨gc, 0, none⟩) n1 cc, zerosC n1⟩ : Rw)]).length = ll + 1 by rw [List.length_append, HLL.out]; rfl)
            obtain ⟨br, offr, eat, hct1, hct2, hcl8, hoc8, hcs8⟩ := HO8.out.last HTL.out HLP.out
            subst eat
            have HLC8 := Lib.hid hcl8
            have HOC8 := Lib.hid hoc8
            have HCS8 := Lib.hid hcs8
            clear hcl8 hoc8 hcs8 hpush ho' hg' HOU HO5 HS5 HR5 HB5 HOT HST HRT HBT y0 y1
            obtain ⟨LT, hLT⟩ : ∃ z, (L ++ [(⟨kx, .slice (some ⟨gc, 0, none⟩) n1 cc, zerosC n1⟩ : Rw)]) = z := ⟨_, rfl⟩
            rw [hLT] at HO8 HLP HPUT HTL
            clear hLT
            obtain ⟨CS, hCS⟩ : ∃ z, zerosC n1 = z := ⟨_, rfl⟩
            rw [hCS] at HLP HPUT HOC8 HCS8
            clear hCS
            have HGC := Lib.hid (show w.heap.size ≤ gc by have := HBT2.out; omega)
            obtain ⟨M9, hM9⟩ : ∃ z, ll + 1 = z := ⟨_, rfl⟩
            rw [hM9] at HO8 hct1 ⊢
            have HM9 := Lib.hid (show (M9 : Int) - 1 = ((ll : Nat) : Int) by omega)
            have hM8 : ((ll : Nat) : Int) < (M9 : Int) := by omega
            have hM7 : ((ll : Nat) : Int) < (ct' : Int) := by omega
            have HMM := Lib.hid hM9
            clear hM9
            have HGS := Lib.hid (show GSt 75 (fun i v _ => v = [.slice (some ⟨bg, og, none⟩) n1 cap, .pointer (some ⟨gw, 1, none⟩), .int .i64 (ii : Int), .pointer (some ⟨bg, og + ii * 2, none⟩), .pointer (some ⟨bg, og + ii * 2 + 1, none⟩), .int .i64 pk, .pointer (some ⟨B, 2, none⟩), .agg #[.int .i64 n, .int .i64 s], .pointer (some ⟨B, 4, none⟩), .agg #[.int .i64 a, .int .i64 b], .pointer (some ⟨gw, 2, none⟩), .bool gx, .pointer (some ⟨gw, 3, none⟩), .string (text vx), .tuple #[.agg #[.int .i64 n9, .int .i64 s9, .int .i64 a9, .int .i64 b9, .bool g9, .string (text t9), .int .i64 d9, .int .i64 e9], .int .i64 f9], .tuple #[.agg #[.int .i64 n9, .int .i64 s9, .int .i64 a9, .int .i64 b9, .bool g9, .string (text t9), .int .i64 d9, .int .i64 e9], .int .i64 f9], .agg #[.int .i64 n9, .int .i64 s9, .int .i64 a9, .int .i64 b9, .bool g9, .string (text t9), .int .i64 d9, .int .i64 e9], .int .i64 f9].getD i undef) from ⟨fun i v X Y h _ => h, fun i v X Y q cs ds _ _ h => h⟩)
            refine wp_region_inv [none,none,none,none,none,none,none,none,none,none,none,none, some 18, some 20, none,none,none,none,none,none,none,none,none,none,none,none,none,none,none,none,none,none,none,none,none,none,none,none,none,none,none,none,none,none,none,none,none,none,none,none,none,none,none, some 15, some 0, some 1, some 2, some 3, some 4, some 5, some 6, some 7, some 8, some 9, some 10, some 11, some 12, some 13, some 14, some 16, some 17, none,none,none,none,none,none,none,none,none,none,none,none,none] (fun i => [u54, u55, u56, u57, u58, u59, u60, u61, u62, u63, u64, u65, u66, u67, u68, u53, u69, u70, u12, undef, u13].getD i undef) (LayG 18 1 75 #[.int .i64 0, .int .i64 0, .int .i64 0, .int .i64 0, .bool false, .string ⟨#[]⟩, .int .i64 0, .int .i64 0] (fun i v _ => v = [.slice (some ⟨bg, og, none⟩) n1 cap, .pointer (some ⟨gw, 1, none⟩), .int .i64 (ii : Int), .pointer (some ⟨bg, og + ii * 2, none⟩), .pointer (some ⟨bg, og + ii * 2 + 1, none⟩), .int .i64 pk, .pointer (some ⟨B, 2, none⟩), .agg #[.int .i64 n, .int .i64 s], .pointer (some ⟨B, 4, none⟩), .agg #[.int .i64 a, .int .i64 b], .pointer (some ⟨gw, 2, none⟩), .bool gx, .pointer (some ⟨gw, 3, none⟩), .string (text vx), .tuple #[.agg #[.int .i64 n9, .int .i64 s9, .int .i64 a9, .int .i64 b9, .bool g9, .string (text t9), .int .i64 d9, .int .i64 e9], .int .i64 f9], .tuple #[.agg #[.int .i64 n9, .int .i64 s9, .int .i64 a9, .int .i64 b9, .bool g9, .string (text t9), .int .i64 d9, .int .i64 e9], .int .i64 f9], .agg #[.int .i64 n9, .int .i64 s9, .int .i64 a9, .int .i64 b9, .bool g9, .string (text t9), .int .i64 d9, .int .i64 e9], .int .i64 f9].getD i undef) (fun _ => 16) w') (by kernel_rfl) (by kernel_rfl) rfl rfl (fun LL hL => LayG.start fun i hi => hL i (Nat.lt_of_lt_of_le hi (by decide))) ?_ ?_
            · simp only [invOps, and_true]
              refine ⟨?_,?_,?_,?_,?_,?_,?_,?_,?_,?_,?_,?_,?_,?_,?_,?_,?_,?_,?_,?_,?_⟩
              · intro LL xs W hI hL hn
                simp only [flowAct, zwc, zwn]
                go_wp2_with (fail)
                exact ⟨rfl, _, rfl, hI.set HGS.out 0 (by decide) (Below.refl _ _) rfl⟩
              · intro LL xs W hI hL hn
                simp only [flowAct, zwc, zwn]
                go_wp2_with (fail)
                exact ⟨rfl, _, rfl, hI.set HGS.out 1 (by decide) (Below.refl _ _) rfl⟩
              · intro LL xs W hI hL hn
                obtain ⟨w0, w1, w2, w3⟩ := wr_cells (heap_below HS8.out hI.below)
                simp [invNeeds, Region.binds] at hn
                have e1 : xs 1 = .pointer (some ⟨gw, 1, none⟩) := hI.2.1 1 (by decide) (by simp only [hn])
                simp only [flowAct, zwc, zwn]
                simp only [e1]
                go_wp2_with (fail)
                exact ⟨rfl, _, rfl, hI.set HGS.out 2 (by decide) (Below.refl _ _) rfl⟩
              · intro LL xs W hI hL hn
                simp [invNeeds, Region.binds] at hn
                have e0 : xs 0 = .slice (some ⟨bg, og, none⟩) n1 cap := hI.2.1 0 (by decide) (by simp only [hn])
                have e2 : xs 2 = .int .i64 (ii : Int) := hI.2.1 2 (by decide) (by simp only [hn])
                simp only [flowAct, zwc, zwn]
                simp only [e0, e2]
                go_wp2_with (fail)
                exact ⟨rfl, _, rfl, hI.set HGS.out 3 (by decide) (Below.refl _ _) rfl⟩
              · intro LL xs W hI hL hn
                simp [invNeeds, Region.binds] at hn
                have e3 : xs 3 = .pointer (some ⟨bg, og + ii * 2, none⟩) := hI.2.1 3 (by decide) (by simp only [hn])
                simp only [flowAct, zwc, zwn]
                simp only [e3]
                go_wp2_with (fail)
                exact ⟨rfl, _, rfl, hI.set HGS.out 4 (by decide) (Below.refl _ _) rfl⟩
              · intro LL xs W hI hL hn
                obtain ⟨g0, g1⟩ := HGT.out W (HB8.out.trans (hI.below.mono HB8.out.size))
                simp [invNeeds, Region.binds] at hn
                have e4 : xs 4 = .pointer (some ⟨bg, og + ii * 2 + 1, none⟩) := hI.2.1 4 (by decide) (by simp only [hn])
                simp only [flowAct, zwc, zwn]
                simp only [e4]
                go_wp2_with (fail)
                exact ⟨rfl, _, rfl, hI.set HGS.out 5 (by decide) (Below.refl _ _) rfl⟩
              · intro LL xs W hI hL hn
                simp only [flowAct, zwc, zwn]
                go_wp2_with (fail)
                exact ⟨rfl, _, rfl, hI.set HGS.out 6 (by decide) (Below.refl _ _) rfl⟩
              · intro LL xs W hI hL hn
                obtain ⟨c0, c1, c2, c3, c4, c5, c6⟩ := ch_cells (heap_below HR8.out hI.below)
                simp [invNeeds, Region.binds] at hn
                have e6 : xs 6 = .pointer (some ⟨B, 2, none⟩) := hI.2.1 6 (by decide) (by simp only [hn])
                simp only [flowAct, zwc, zwn]
                simp only [e6]
                go_wp2_with (fail)
                exact ⟨rfl, _, rfl, hI.set HGS.out 7 (by decide) (Below.refl _ _) rfl⟩
              · intro LL xs W hI hL hn
                simp only [flowAct, zwc, zwn]
                go_wp2_with (fail)
                exact ⟨rfl, _, rfl, hI.set HGS.out 8 (by decide) (Below.refl _ _) rfl⟩
              · intro LL xs W hI hL hn
                obtain ⟨c0, c1, c2, c3, c4, c5, c6⟩ := ch_cells (heap_below HR8.out hI.below)
                simp [invNeeds, Region.binds] at hn
                have e8 : xs 8 = .pointer (some ⟨B, 4, none⟩) := hI.2.1 8 (by decide) (by simp only [hn])
                simp only [flowAct, zwc, zwn]
                simp only [e8]
                go_wp2_with (fail)
                exact ⟨rfl, _, rfl, hI.set HGS.out 9 (by decide) (Below.refl _ _) rfl⟩
              · intro LL xs W hI hL hn
                simp only [flowAct, zwc, zwn]
                go_wp2_with (fail)
                exact ⟨rfl, _, rfl, hI.set HGS.out 10 (by decide) (Below.refl _ _) rfl⟩
              · intro LL xs W hI hL hn
                obtain ⟨w0, w1, w2, w3⟩ := wr_cells (heap_below HS8.out hI.below)
                simp [invNeeds, Region.binds] at hn
                have e10 : xs 10 = .pointer (some ⟨gw, 2, none⟩) := hI.2.1 10 (by decide) (by simp only [hn])
                simp only [flowAct, zwc, zwn]
                simp only [e10]
                go_wp2_with (fail)
                exact ⟨rfl, _, rfl, hI.set HGS.out 11 (by decide) (Below.refl _ _) rfl⟩
              · intro LL xs W hI hL hn
                simp only [flowAct, zwc, zwn]
                go_wp2_with (fail)
                exact ⟨rfl, _, rfl, hI.set HGS.out 12 (by decide) (Below.refl _ _) rfl⟩
              · intro LL xs W hI hL hn
                obtain ⟨w0, w1, w2, w3⟩ := wr_cells (heap_below HS8.out hI.below)
                simp [invNeeds, Region.binds] at hn
                have e12 : xs 12 = .pointer (some ⟨gw, 3, none⟩) := hI.2.1 12 (by decide) (by simp only [hn])
                simp only [flowAct, zwc, zwn]
                simp only [e12]
                go_wp2_with (fail)
                exact ⟨rfl, _, rfl, hI.set HGS.out 13 (by decide) (Below.refl _ _) rfl⟩
              · intro LL xs W hI hL hn
                simp [invNeeds, Region.binds] at hn
                have e5 : xs 5 = .int .i64 pk := hI.2.1 5 (by decide) (by simp only [hn])
                have e7 : xs 7 = .agg #[.int .i64 n, .int .i64 s] := hI.2.1 7 (by decide) (by simp only [hn])
                have e9 : xs 9 = .agg #[.int .i64 a, .int .i64 b] := hI.2.1 9 (by decide) (by simp only [hn])
                have e11 : xs 11 = .bool gx := hI.2.1 11 (by decide) (by simp only [hn])
                have e13 : xs 13 = .string (text vx) := hI.2.1 13 (by decide) (by simp only [hn])
                simp only [flowAct, zwc, zwn]
                simp only [e5, e7, e9, e11, e13]
                go_wp2_with (go_at_call 120; (with_reducible refine (HCO.out _).mono ?_); rintro e9 w9 ⟨rfl, hb9⟩)
                exact ⟨rfl, _, rfl, hI.set HGS.out 14 (by decide) hb9 rfl⟩
              · intro LL xs W hI hL hn
                simp [invNeeds, Region.binds] at hn
                have e14 : xs 14 = .tuple #[.agg #[.int .i64 n9, .int .i64 s9, .int .i64 a9, .int .i64 b9, .bool g9, .string (text t9), .int .i64 d9, .int .i64 e9], .int .i64 f9] := hI.2.1 14 (by decide) (by simp only [hn])
                simp only [flowAct, zwc, zwn]
                simp only [e14]
                go_wp2_with (fail)
                exact ⟨rfl, _, rfl, hI.set HGS.out 15 (by decide) (Below.refl _ _) rfl⟩
              · intro LL xs W hI hL hn
                simp [invNeeds, Region.binds] at hn
                have e15 : xs 15 = .tuple #[.agg #[.int .i64 n9, .int .i64 s9, .int .i64 a9, .int .i64 b9, .bool g9, .string (text t9), .int .i64 d9, .int .i64 e9], .int .i64 f9] := hI.2.1 15 (by decide) (by simp only [hn])
                simp only [flowAct, zwc, zwn]
                simp only [e15]
                go_wp2_with (fail)
                exact ⟨rfl, _, rfl, hI.set HGS.out 16 (by decide) (Below.refl _ _) rfl⟩
              · intro LL xs W hI hL hn
                simp [invNeeds, Region.binds] at hn
                have e15 : xs 15 = .tuple #[.agg #[.int .i64 n9, .int .i64 s9, .int .i64 a9, .int .i64 b9, .bool g9, .string (text t9), .int .i64 d9, .int .i64 e9], .int .i64 f9] := hI.2.1 15 (by decide) (by simp only [hn])
                simp only [flowAct, zwc, zwn]
                simp only [e15]
                go_wp2_with (fail)
                exact ⟨rfl, _, rfl, hI.set HGS.out 17 (by decide) (Below.refl _ _) rfl⟩
              · intro LL xs W hI hL hn
                simp only [flowAct, zwc, zwn]
                go_wp2_with (fail)
                exact ⟨rfl, _, rfl, hI.alloc HGS.out 0 (by decide) rfl hL⟩
              · intro LL xs W hI hL hn
                simp [invNeeds, Region.binds] at hn
                obtain ⟨hk, hv⟩ : LL 18 = true ∧ LL 16 = true := by simp only [hn, and_self]
                obtain ⟨g5, cs5, eg, lg, hgc, hz5⟩ := hI.2.2.1 0 (by decide) hk
                rw [if_neg (by rw [show LL (18 + 1 + 0) = false from hL]; decide)] at hz5
                subst hz5
                have e0 : xs 16 = .agg #[.int .i64 n9, .int .i64 s9, .int .i64 a9, .int .i64 b9, .bool g9, .string (text t9), .int .i64 d9, .int .i64 e9] := hI.2.1 16 (by decide) hv
                have e1 : xs 18 = .pointer (some ⟨g5, 0, none⟩) := eg
                have hc5 : Cel W g5 0 0 0 0 false [] 0 0 := hgc
                obtain ⟨p0, p1, p2, p3, p4, p5, p6, p7⟩ := hc5.cs
                have pfz := hc5.fz
                simp only [flowAct, zwc, zwn]
                simp only [e0, e1]
                go_wp2_with (fail)
                exact ⟨rfl, undef, rfl, hI.store HGS.out 0 (by decide) rfl rfl hk eg rfl (Wrote.cell8 hc5 n9 s9 a9 b9 g9 t9 d9 e9) undef⟩
              · intro LL xs W hI hL hn
                simp [invNeeds, Region.binds] at hn
                have e17 : xs 17 = .int .i64 f9 := hI.2.1 17 (by decide) (by simp only [hn])
                simp only [flowAct, zwc, zwn]
                simp only [e17]
                go_wp2_with (fail)
                exact ⟨rfl, _, rfl, hI.other 20 (by decide) _⟩
            · intro LL xs W hI hall
              obtain ⟨hW, -, hP, -,-⟩ := hI
              obtain ⟨gx9, cs7, e7, l7, h7, g7⟩ := hP 0 (by decide) (hall 18 (by decide))
              rw [if_pos (hall (18 + 1 + 0) (by decide))] at g7
              have g7 : Value.agg cs7 = .agg #[.int .i64 n9, .int .i64 s9, .int .i64 a9, .int .i64 b9, .bool g9, .string (text t9), .int .i64 d9, .int .i64 e9] := g7
              injection g7 with g7
              subst g7
              clear g7
              replace e7 : xs 18 = _ := e7
              clear hP hall
              simp only [flowAct, zwc, zwn]
              simp only [e7]
              have hbk := HB8.out.trans (hW.mono HB8.out.size)
              have hrk := heap_below HR8.out hW
              have hsk := heap_below HS8.out hW
              have hok := HO8.out.kept hW
              have hoc := HOC8.out.kept hW
              have hlc := fun W' (h : Below W.heap.size W W') => HLC8.out W' (hW.trans (h.mono hW.size))
              have hce : Cel W gx9 n9 s9 a9 b9 g9 t9 d9 e9 := h7
              clear e7 h7 hW HGS HGT
              obtain ⟨WK, hWK⟩ : ∃ X, W = X := ⟨_, rfl⟩
              rw [hWK] at hbk hrk hsk hok hoc hlc hce ⊢
              clear hWK HB8 HR8 HS8 HO8 HOC8 HLC8
              have HB7 := Lib.hid hbk
              have HR7 := Lib.hid hrk
              have HS7 := Lib.hid hsk
              have HO7 := Lib.hid hok
              have HOC7 := Lib.hid hoc
              have HLC7 := Lib.hid hlc
              have HCE := Lib.hid hce
              clear hbk hrk hsk hok hoc hlc hce
              go_upto_region 12 with (fail)
              refine wp_region_flow_tail 10 [none,none,none,none,none,none,none,none,none,none,none,none,none,none,none,none,none,none,none,none,none,none,none,none,none,none,none,none,none,none,none,none,none,none,none,none,none,none,none,none,none,none,none,none,none,none,none,none,none,none,none,none,none,none,none,none,none,none,none,none,none,none,none,none,none,none,none,none,none,none,none, some 0, some 1, some 2, some 3, some 4, some 5, some 6, some 7, some 8, some 9, none,none,none] (fun i => [u71, u72, u73, u74, u75, u76, u77, u78, u79, u80].getD i undef) [(fun v _ => v = .slice (some ⟨br, offr, none⟩) M9 ct'), (fun v _ => v = .slice (some ⟨br, offr, none⟩) M9 ct'), (fun v _ => v = .int .i64 (M9 : Int)), (fun v _ => v = .int .i64 ((ll : Nat) : Int)), (fun v _ => v = .pointer (some ⟨br, offr + ll * 2, none⟩)), (fun v _ => v = .pointer (some ⟨br, offr + ll * 2 + 1, none⟩)), (fun v _ => v = .slice (some ⟨gc, 0, none⟩) n1 cc), (fun v _ => v = .pointer (some ⟨gw, 1, none⟩)), (fun v _ => v = .int .i64 (ii : Int)), (fun v _ => v = .agg #[.int .i64 n9, .int .i64 s9, .int .i64 a9, .int .i64 b9, .bool g9, .string (text t9), .int .i64 d9, .int .i64 e9])] (fun _ => False) (by kernel_rfl) (by kernel_rfl) (by kernel_rfl) rfl rfl rfl ?_ ?_ ?_
              · intro g hg v X Y hX hY hv
                simp only [List.mem_cons, List.not_mem_nil, or_false] at hg
                rcases hg with rfl | rfl | rfl | rfl | rfl | rfl | rfl | rfl | rfl | rfl
                all_goals first
                  | exact hv
                  | exact hv.kept hY
              · simp only [flowOpsF, List.take_succ_cons, List.take_zero, and_true]
                refine ⟨?_,?_,?_,?_,?_,?_,?_,?_,?_,?_⟩
                · intro xs W hW hn
                  simp only [flowAct, zwc, zwn]
                  go_wp2_with (fail)
                  exact ⟨rfl, _, rfl, Below.refl _ _, rfl, fun h => h.elim⟩
                · intro xs W hW hn
                  simp only [flowAct, zwc, zwn]
                  go_wp2_with (fail)
                  exact ⟨rfl, _, rfl, Below.refl _ _, rfl, fun h => h.elim⟩
                · intro xs W hW hn
                  simp [flowNeeds, Region.binds] at hn
                  simp only [flowAct, zwc, zwn]
                  try simp only [hn]
                  go_wp2_with (fail)
                  exact ⟨rfl, _, rfl, Below.refl _ _, rfl, fun h => h.elim⟩
                · intro xs W hW hn
                  have hm9 := HM9.out
                  simp [flowNeeds, Region.binds] at hn
                  simp only [flowAct, zwc, zwn]
                  simp only [hn]
                  go_wp2_with (fail)
                  exact ⟨rfl, _, rfl, Below.refl _ _, by first | rfl | go_num, fun h => h.elim⟩
                · intro xs W hW hn
                  simp [flowNeeds, Region.binds] at hn
                  simp only [flowAct, zwc, zwn]
                  try simp only [hn]
                  go_wp2_with (fail)
                  exact ⟨rfl, _, rfl, Below.refl _ _, rfl, fun h => h.elim⟩
                · intro xs W hW hn
                  simp [flowNeeds, Region.binds] at hn
                  simp only [flowAct, zwc, zwn]
                  try simp only [hn]
                  go_wp2_with (fail)
                  exact ⟨rfl, _, rfl, Below.refl _ _, rfl, fun h => h.elim⟩
                · intro xs W hW hn
                  obtain ⟨r0, r1⟩ := HLC7.out W hW
                  simp [flowNeeds, Region.binds] at hn
                  simp only [flowAct, zwc, zwn]
                  try simp only [hn]
                  go_wp2_with (fail)
                  exact ⟨rfl, _, rfl, Below.refl _ _, rfl, fun h => h.elim⟩
                · intro xs W hW hn
                  simp only [flowAct, zwc, zwn]
                  go_wp2_with (fail)
                  exact ⟨rfl, _, rfl, Below.refl _ _, rfl, fun h => h.elim⟩
                · intro xs W hW hn
                  obtain ⟨w0, w1, w2, w3⟩ := wr_cells (heap_below HS7.out hW)
                  simp [flowNeeds, Region.binds] at hn
                  simp only [flowAct, zwc, zwn]
                  try simp only [hn]
                  go_wp2_with (fail)
                  exact ⟨rfl, _, rfl, Below.refl _ _, rfl, fun h => h.elim⟩
                · intro xs W hW hn
                  obtain ⟨p0, p1, p2, p3, p4, p5, p6, p7⟩ := (HCE.out.kept hW).cs
                  simp only [flowAct, zwc, zwn]
                  go_wp2_with (fail)
                  exact ⟨rfl, _, rfl, Below.refl _ _, rfl, fun h => h.elim⟩
              · intro xs W hW hall hfr
                clear hfr
                simp only [flowAll, and_true, Nat.zero_add, Nat.reduceAdd] at hall
                obtain ⟨-,-,-,-,-,-, y6, -, y8, y9⟩ := hall
                simp only [flowAct, zwc, zwn, List.drop_succ_cons, List.drop_zero]
                simp only [y6, y8, y9]
                have HBx := Lib.hid (HB7.out.trans (hW.mono HB7.out.size))
                have HRx := Lib.hid (heap_below HR7.out hW)
                have HOx := Lib.hid (HO7.out.kept hW)
                have HOCx := Lib.hid (HOC7.out.kept hW)
                have hlk : ii < CS.length := by have := HCS8.out; omega
                have HLK := Lib.hid hlk
                have pfz := own_fz HOCx.out
                obtain ⟨p0, p1, p2, p3, p4, p5, p6, p7⟩ := own_at HOCx.out hlk _ (Below.refl _ _)
                clear y6 y8 y9 hW hlk
                go_wp2
                go_roundw
                case rel => exact ⟨k + 1, _, LT.set ll ⟨kx, .slice (some ⟨gc, 0, none⟩) n1 cc, CS.set ii ⟨n9, s9, a9, b9, g9, t9, d9, e9⟩⟩, by omega, by go_num, rfl, (by have hst := OwnRw.store HOx.out (j := ll) (by rw [HTL.out]; omega) (by rw [HLP.out]; exact put_only (k := ii) n9 s9 a9 b9 g9 t9 d9 e9) (by rw [HLP.out]; exact own_put HOCx.out HLK.out n9 s9 a9 b9 g9 t9 d9 e9) (by rw [List.length_set]; exact HCS8.out) hn0; rw [HLP.out] at hst; exact hst), HPUT.out, cells_put_below (k := ii) HBx.out HGC.out n9 s9 a9 b9 g9 t9 d9 e9, ((put_only (g := gc) (m := n1) (c := cc) (k := ii) n9 s9 a9 b9 g9 t9 d9 e9).rest B (own_ne HRx.out (by decide) HOCx.out)).trans HRx.out⟩
                case measure => simp [intOf]; omega
            
        · obtain ⟨k1, hk1⟩ : ∃ k1, k = k1 + 1 := ⟨k - 1, by omega⟩
          have HK1 := Lib.hid (show (k : Int) - 1 = (k1 : Int) by omega)
          have hk1m : k1 < m := by omega
          have hk1i : (k1 : Int) < (m : Int) := by omega
          have hk1c : (k1 : Int) < (cap2 : Int) := by omega
          have hpr := HPR.out
          rw [hk1] at hpr
          obtain ⟨p, hp1, hp2⟩ := wrow_last gs n s a b l k1
          rw [← hpr, List.length_map, HLL.out] at hp1
          rw [← hpr, prs_at (by rw [HLL.out]; omega)] at hp2
          obtain ⟨⟨kp, ip, gp, vp⟩, hyp⟩ : ∃ z, l.getD k1 Wr.zero = z := ⟨_, rfl⟩
          obtain ⟨bl', offl', ebl, hatp⟩ := HL.out.place hk1m
          obtain ⟨rfl, rfl⟩ : bl = bl' ∧ offl = offl' := by injection ebl with e1; injection e1 with e2 e3; exact ⟨e2, e3⟩
          rw [hyp] at hatp hp2
          simp only at hatp hp2
          have HPV := Lib.hid hatp
          subst hp1
          have HZ0 := Lib.hid (show ((k : Int) == 0) = false by simp; omega)
          obtain ⟨⟨kl, ul, csl⟩, hlp⟩ : ∃ z, L.getD p Rw.zero = z := ⟨_, rfl⟩
          rw [hlp] at hp2
          replace hp2 : kl = kp := hp2
          subst hp2
          obtain ⟨br, offr, eal, hct1, hct2, hcl, hoc, hcs⟩ := HO9.out.last HLL.out hlp
          subst eal
          obtain ⟨gc, cc, rfl, hgcB, hccl, hgclt⟩ := own_some hoc (by omega)
          rw [hcs] at hccl hcl hoc hlp
          have HLP := Lib.hid hlp
          have HLC := Lib.hid hcl
          have HOC := Lib.hid hoc
          have HCS := Lib.hid hcs
          have hte := text_eqb kx kl
          obtain ⟨Q, hQ⟩ : ∃ z, (kx == kl) = z := ⟨_, rfl⟩
          rw [hQ] at hte
          have HTE := Lib.hid hte
          have HQ9 := Lib.hid hQ
          clear hlp hcl hoc hcs hte hQ hpr hyp hatp ebl hl0 hk1
          refine wp_region_flow [none,none,none,none,none,none,none,none,none,none,none,none,none,none,none,none,none,none,none,none,none,none,none,none,none,none,none,none, some 0, some 1, some 2, some 3, some 4, some 5, some 6, some 7, some 8, some 9, some 10, some 11, some 12, some 13, none,none,none,none,none,none,none,none,none,none,none,none,none,none,none,none,none,none,none,none,none,none,none,none,none,none,none,none,none,none,none,none,none,none,none,none,none,none,none,none,none,none] (fun i => [u28, u29, u30, u31, u32, u33, u34, u35, u36, u37, u38, u39, u40, u41].getD i undef) [(fun v _ => v = .int .i64 (k : Int)), (fun v _ => v = .bool false), (fun v _ => v = .bool false), (fun v _ => v = .pointer (some ⟨gw, 0, none⟩)), (fun v _ => v = .string (text kx)), (fun v _ => v = .pointer (some ⟨B, 6, none⟩)), (fun v _ => v = .slice (some ⟨bl, offl, none⟩) m cap2), (fun v _ => v = .int .i64 (k : Int)), (fun v _ => v = .int .i64 (k1 : Int)), (fun v _ => v = .pointer (some ⟨bl, offl + k1 * 4, none⟩)), (fun v _ => v = .pointer (some ⟨bl, offl + k1 * 4, none⟩)), (fun v _ => v = .string (text kl)), (fun v _ => v = .bool (!Q)), (fun v _ => v = .bool (!Q))] (by kernel_rfl) (by kernel_rfl) rfl rfl rfl ?_ ?_ ?_
          · intro g hg v X Y hX hY hv
            simp only [List.mem_cons, List.not_mem_nil, or_false] at hg
            rcases hg with rfl | rfl | rfl | rfl | rfl | rfl | rfl | rfl | rfl | rfl | rfl | rfl | rfl | rfl
            all_goals first
              | exact hv
              | exact hv.kept hY
          · simp only [flowOps, and_true]
            refine ⟨?_,?_,?_,?_,?_,?_,?_,?_,?_,?_,?_,?_,?_,?_⟩
            · intro xs W hW hn
              simp only [flowAct, zwc, zwn]
              go_wp2_with (fail)
              exact ⟨rfl, _, rfl, Below.refl _ _, rfl⟩
            · intro xs W hW hn
              have hz := HZ0.out
              simp [flowNeeds, Region.binds] at hn
              simp only [flowAct, zwc, zwn]
              simp only [hn]
              go_wp2_with (fail)
              exact ⟨rfl, _, rfl, Below.refl _ _, by go_num⟩
            · intro xs W hW hn
              simp [flowNeeds, Region.binds] at hn
              simp only [flowAct, zwc, zwn]
              try simp only [hn]
              go_wp2_with (fail)
              exact ⟨rfl, _, rfl, Below.refl _ _, rfl⟩
            · intro xs W hW hn
              simp [flowNeeds, Region.binds] at hn
              simp only [flowAct, zwc, zwn]
              try simp only [hn]
              go_wp2_with (fail)
              exact ⟨rfl, _, rfl, Below.refl _ _, rfl⟩
            · intro xs W hW hn
              obtain ⟨w0, w1, w2, w3⟩ := wr_cells (heap_below HS9.out hW)
              simp [flowNeeds, Region.binds] at hn
              simp only [flowAct, zwc, zwn]
              try simp only [hn]
              go_wp2_with (fail)
              exact ⟨rfl, _, rfl, Below.refl _ _, rfl⟩
            · intro xs W hW hn
              simp [flowNeeds, Region.binds] at hn
              simp only [flowAct, zwc, zwn]
              try simp only [hn]
              go_wp2_with (fail)
              exact ⟨rfl, _, rfl, Below.refl _ _, rfl⟩
            · intro xs W hW hn
              obtain ⟨-,-,-,-,-,-, c6⟩ := ch_cells (heap_below HR9.out hW)
              simp [flowNeeds, Region.binds] at hn
              simp only [flowAct, zwc, zwn]
              try simp only [hn]
              go_wp2_with (fail)
              exact ⟨rfl, _, rfl, Below.refl _ _, rfl⟩
            · intro xs W hW hn
              simp [flowNeeds, Region.binds] at hn
              simp only [flowAct, zwc, zwn]
              try simp only [hn]
              go_wp2_with (fail)
              exact ⟨rfl, _, rfl, Below.refl _ _, rfl⟩
            · intro xs W hW hn
              have hk1 := HK1.out
              simp [flowNeeds, Region.binds] at hn
              simp only [flowAct, zwc, zwn]
              simp only [hn]
              go_wp2_with (fail)
              exact ⟨rfl, _, rfl, Below.refl _ _, by go_num⟩
            · intro xs W hW hn
              simp [flowNeeds, Region.binds] at hn
              simp only [flowAct, zwc, zwn]
              try simp only [hn]
              go_wp2_with (fail)
              exact ⟨rfl, _, rfl, Below.refl _ _, rfl⟩
            · intro xs W hW hn
              simp [flowNeeds, Region.binds] at hn
              simp only [flowAct, zwc, zwn]
              try simp only [hn]
              go_wp2_with (fail)
              exact ⟨rfl, _, rfl, Below.refl _ _, rfl⟩
            · intro xs W hW hn
              obtain ⟨v0, v1, v2, v3⟩ := HPV.out W (HB9.out.trans (hW.mono HB9.out.size))
              simp [flowNeeds, Region.binds] at hn
              simp only [flowAct, zwc, zwn]
              try simp only [hn]
              go_wp2_with (fail)
              exact ⟨rfl, _, rfl, Below.refl _ _, rfl⟩
            · intro xs W hW hn
              have hte := HTE.out
              simp [flowNeeds, Region.binds] at hn
              simp only [flowAct, zwc, zwn]
              try simp only [hn]
              go_wp2_with (fail)
              exact ⟨rfl, _, rfl, Below.refl _ _, rfl⟩
            · intro xs W hW hn
              simp [flowNeeds, Region.binds] at hn
              simp only [flowAct, zwc, zwn]
              try simp only [hn]
              go_wp2_with (fail)
              exact ⟨rfl, _, rfl, Below.refl _ _, rfl⟩
          · intro xs W hW hall
            simp only [flowAll, and_true, Nat.zero_add, Nat.reduceAdd] at hall
            obtain ⟨-,-,-,-,-,-,-,-,-,-,-,-,-, eL⟩ := hall
            simp only [flowAct, zwc, zwn]
            simp only [eL]
            have hbk := HB9.out.trans (hW.mono HB9.out.size)
            have hrk := heap_below HR9.out hW
            have hsk := heap_below HS9.out hW
            have hok := HO9.out.kept hW
            clear eL
            have hct0 := fun W' (h : Below W.heap.size W W') => HLC.out W' (hW.trans (h.mono hW.size))
            have hoc0 := HOC.out.kept hW
            obtain ⟨WK, hWK⟩ : ∃ X, W = X := ⟨_, rfl⟩
            rw [hWK] at hbk hrk hsk hok hct0 hoc0 ⊢
            clear hWK hW HB9 HR9 HS9 HO9
            have HLCT := Lib.hid hct0
            have HOCT := Lib.hid hoc0
            clear hct0 hoc0
            have HBT := Lib.hid hbk
            have HRT := Lib.hid hrk
            have HST := Lib.hid hsk
            have HOT := Lib.hid hok
            clear hbk hrk hsk hok
            cases Q with
            | false =>
              obtain ⟨w0, w1, w2, w3⟩ := wr_cells HST.out
              have hzl : (zerosC n1).length = n1 := by simp [zerosC]
              have HZL := Lib.hid hzl
              go_upto_region 10 with (go_at_call 119; (with_reducible refine (HNEW.out _ HBT.out).mono ?_); rintro e9 w4 ⟨u, rfl, hou, hb4⟩; obtain ⟨gc, cc, rfl, hgcB, hccl, hgclt⟩ := own_some hou (by rw [HZL.out]; omega); rw [HZL.out] at hou hccl ⊢)
              have hal4 := alloc_below w4 (.cells #[.string (text kx), .slice (some ⟨gc, 0, none⟩) n1 cc] 30)
              have hqr := heap_alloc_new w4 (.cells #[.string (text kx), .slice (some ⟨gc, 0, none⟩) n1 cc] 30)
              have hb5 := hb4.trans (hal4.mono hb4.size)
              have HB5 := Lib.hid (HBT.out.trans (hb5.mono HBT.out.size))
              have HR5 := Lib.hid (heap_below HRT.out hb5)
              have HS5 := Lib.hid (heap_below HST.out hb5)
              have HO5 := Lib.hid (HOT.out.kept hb5)
              have HOU := Lib.hid (hou.kept hal4)
              have HLTB := Lib.hid hb5.size
              have HBT2 := Lib.hid (Nat.le_trans HBT.out.size hgcB)
              obtain ⟨qr, hqr2⟩ : ∃ z, w4.heap.size = z := ⟨_, rfl⟩
              rw [hqr2] at hqr
              try rw [hqr2]
              clear hal4 hb5 hb4 hou hgclt hqr2 w0 w1 w2 w3
              generalize w4.alloc (.cells #[.string (text kx), .slice (some ⟨gc, 0, none⟩) n1 cc] 30) = w5 at *
              obtain ⟨y0, y1⟩ := pair_cells hqr
              clear hqr
              go_upto_region 11 with (at_builtin; refine wpList_append_rw rfl _ _ rfl (u := .slice (some ⟨br, offr, none⟩) (p + 1) cl) rfl HO5.out.row kx _ _ _ (zerosC n1) rfl (by rw [HLL.out]; omega) HB5.out.size ?_; intro v' w' ho' hg'; have hpush := HO5.out.push HZL.out HOU.out (by omega) HBT.out.size (fun j hj q hq => ((HOT.out.own j hj).1.lt q hq).2) _ ho' hg'; obtain ⟨at', ct', evt, -⟩ := hpush.at; rw [List.length_append, List.length_singleton, HLL.out] at evt; subst evt)
              have HB8 := Lib.hid ((HB5.out.alloc HB5.out.size (.cells #[.string (text kx), .slice (some ⟨gc, 0, none⟩) n1 cc] 30)).grown hg' (by simp; have := HB5.out.size; omega) (fun z e => (HO5.out.row.lt z e).1))
              have HR8 := Lib.hid (heap_grown ((Below.heap_alloc w5 (.cells #[.string (text kx), .slice (some ⟨gc, 0, none⟩) n1 cc] 30) B (Array.getElem?_eq_some_iff.1 HR5.out).1).trans HR5.out) hg' (own_ne HR5.out (by decide) HO5.out.row))
              have HS8 := Lib.hid (heap_grown ((Below.heap_alloc w5 (.cells #[.string (text kx), .slice (some ⟨gc, 0, none⟩) n1 cc] 30) gw (Array.getElem?_eq_some_iff.1 HS5.out).1).trans HS5.out) hg' (own_ne HS5.out (by decide) HO5.out.row))
              have HO8 := Lib.hid hpush
              have HLPn := Lib.hid (show (L ++ [(⟨kx, .slice (some ⟨gc, 0, none⟩) n1 cc, zerosC n1⟩ : Rw)]).getD (p + 1) Rw.zero = ⟨kx, .slice (some ⟨gc, 0, none⟩) n1 cc, zerosC n1⟩ by rw [getD_push, HLL.out]; simp)
              have HPUT := Lib.hid (show ((L ++ [(⟨kx, .slice (some ⟨gc, 0, none⟩) n1 cc, zerosC n1⟩ : Rw)]).set (p + 1) (⟨kx, .slice (some ⟨gc, 0, none⟩) n1 cc, (zerosC n1).set ii ⟨n9, s9, a9, b9, g9, t9, d9, e9⟩⟩ : Rw)).map Rw.pr = wrowN gs n s a b l (k + 1) by rw [HN.out, ← HLL.out]; exact put_new rfl (.inr (by rw [HLL.out, Nat.add_sub_cancel, HLP.out]; have h9 := HQ9.out; exact fun e => (by simpa using h9 : kx ≠ kl) e.symm)))
              have HTL := Lib.hid (show (L ++ [(⟨kx, .slice (some ⟨gc, 0, none⟩) n1 cc, zerosC n1⟩ : Rw)]).length = (p + 1) + 1 by rw [List.length_append, HLL.out]; rfl)
              obtain ⟨br9, offr9, eat, hct1, hct2, hcl8, hoc8, hcs8⟩ := HO8.out.last HTL.out HLPn.out
              subst eat
              have HLC8 := Lib.hid hcl8
              have HOC8 := Lib.hid hoc8
              have HCS8 := Lib.hid hcs8
              clear hcl8 hoc8 hcs8 hpush ho' hg' HOU HO5 HS5 HR5 HB5 HOT HST HRT HBT y0 y1
              obtain ⟨LT, hLT⟩ : ∃ z, (L ++ [(⟨kx, .slice (some ⟨gc, 0, none⟩) n1 cc, zerosC n1⟩ : Rw)]) = z := ⟨_, rfl⟩
              rw [hLT] at HO8 HLPn HPUT HTL
              clear hLT
              obtain ⟨CS, hCS⟩ : ∃ z, zerosC n1 = z := ⟨_, rfl⟩
              rw [hCS] at HLPn HPUT HOC8 HCS8
              clear hCS
              have HGC := Lib.hid (show w.heap.size ≤ gc by have := HBT2.out; omega)
              obtain ⟨M9, hM9⟩ : ∃ z, (p + 1) + 1 = z := ⟨_, rfl⟩
              rw [hM9] at HO8 hct1 ⊢
              have HM9 := Lib.hid (show (M9 : Int) - 1 = (((p + 1) : Nat) : Int) by omega)
              have hM8 : (((p + 1) : Nat) : Int) < (M9 : Int) := by omega
              have hM7 : (((p + 1) : Nat) : Int) < (ct' : Int) := by omega
              have HMM := Lib.hid hM9
              clear hM9
              have HGS := Lib.hid (show GSt 75 (fun i v _ => v = [.slice (some ⟨bg, og, none⟩) n1 cap, .pointer (some ⟨gw, 1, none⟩), .int .i64 (ii : Int), .pointer (some ⟨bg, og + ii * 2, none⟩), .pointer (some ⟨bg, og + ii * 2 + 1, none⟩), .int .i64 pk, .pointer (some ⟨B, 2, none⟩), .agg #[.int .i64 n, .int .i64 s], .pointer (some ⟨B, 4, none⟩), .agg #[.int .i64 a, .int .i64 b], .pointer (some ⟨gw, 2, none⟩), .bool gx, .pointer (some ⟨gw, 3, none⟩), .string (text vx), .tuple #[.agg #[.int .i64 n9, .int .i64 s9, .int .i64 a9, .int .i64 b9, .bool g9, .string (text t9), .int .i64 d9, .int .i64 e9], .int .i64 f9], .tuple #[.agg #[.int .i64 n9, .int .i64 s9, .int .i64 a9, .int .i64 b9, .bool g9, .string (text t9), .int .i64 d9, .int .i64 e9], .int .i64 f9], .agg #[.int .i64 n9, .int .i64 s9, .int .i64 a9, .int .i64 b9, .bool g9, .string (text t9), .int .i64 d9, .int .i64 e9], .int .i64 f9].getD i undef) from ⟨fun i v X Y h _ => h, fun i v X Y q cs ds _ _ h => h⟩)
              refine wp_region_inv [none,none,none,none,none,none,none,none,none,none,none,none, some 18, some 20, none,none,none,none,none,none,none,none,none,none,none,none,none,none,none,none,none,none,none,none,none,none,none,none,none,none,none,none,none,none,none,none,none,none,none,none,none,none,none, some 15, some 0, some 1, some 2, some 3, some 4, some 5, some 6, some 7, some 8, some 9, some 10, some 11, some 12, some 13, some 14, some 16, some 17, none,none,none,none,none,none,none,none,none,none,none,none,none] (fun i => [u54, u55, u56, u57, u58, u59, u60, u61, u62, u63, u64, u65, u66, u67, u68, u53, u69, u70, u12, undef, u13].getD i undef) (LayG 18 1 75 #[.int .i64 0, .int .i64 0, .int .i64 0, .int .i64 0, .bool false, .string ⟨#[]⟩, .int .i64 0, .int .i64 0] (fun i v _ => v = [.slice (some ⟨bg, og, none⟩) n1 cap, .pointer (some ⟨gw, 1, none⟩), .int .i64 (ii : Int), .pointer (some ⟨bg, og + ii * 2, none⟩), .pointer (some ⟨bg, og + ii * 2 + 1, none⟩), .int .i64 pk, .pointer (some ⟨B, 2, none⟩), .agg #[.int .i64 n, .int .i64 s], .pointer (some ⟨B, 4, none⟩), .agg #[.int .i64 a, .int .i64 b], .pointer (some ⟨gw, 2, none⟩), .bool gx, .pointer (some ⟨gw, 3, none⟩), .string (text vx), .tuple #[.agg #[.int .i64 n9, .int .i64 s9, .int .i64 a9, .int .i64 b9, .bool g9, .string (text t9), .int .i64 d9, .int .i64 e9], .int .i64 f9], .tuple #[.agg #[.int .i64 n9, .int .i64 s9, .int .i64 a9, .int .i64 b9, .bool g9, .string (text t9), .int .i64 d9, .int .i64 e9], .int .i64 f9], .agg #[.int .i64 n9, .int .i64 s9, .int .i64 a9, .int .i64 b9, .bool g9, .string (text t9), .int .i64 d9, .int .i64 e9], .int .i64 f9].getD i undef) (fun _ => 16) w') (by kernel_rfl) (by kernel_rfl) rfl rfl (fun LL hL => LayG.start fun i hi => hL i (Nat.lt_of_lt_of_le hi (by decide))) ?_ ?_
              · simp only [invOps, and_true]
                refine ⟨?_,?_,?_,?_,?_,?_,?_,?_,?_,?_,?_,?_,?_,?_,?_,?_,?_,?_,?_,?_,?_⟩
                · intro LL xs W hI hL hn
                  simp only [flowAct, zwc, zwn]
                  go_wp2_with (fail)
                  exact ⟨rfl, _, rfl, hI.set HGS.out 0 (by decide) (Below.refl _ _) rfl⟩
                · intro LL xs W hI hL hn
                  simp only [flowAct, zwc, zwn]
                  go_wp2_with (fail)
                  exact ⟨rfl, _, rfl, hI.set HGS.out 1 (by decide) (Below.refl _ _) rfl⟩
                · intro LL xs W hI hL hn
                  obtain ⟨w0, w1, w2, w3⟩ := wr_cells (heap_below HS8.out hI.below)
                  simp [invNeeds, Region.binds] at hn
                  have e1 : xs 1 = .pointer (some ⟨gw, 1, none⟩) := hI.2.1 1 (by decide) (by simp only [hn])
                  simp only [flowAct, zwc, zwn]
                  simp only [e1]
                  go_wp2_with (fail)
                  exact ⟨rfl, _, rfl, hI.set HGS.out 2 (by decide) (Below.refl _ _) rfl⟩
                · intro LL xs W hI hL hn
                  simp [invNeeds, Region.binds] at hn
                  have e0 : xs 0 = .slice (some ⟨bg, og, none⟩) n1 cap := hI.2.1 0 (by decide) (by simp only [hn])
                  have e2 : xs 2 = .int .i64 (ii : Int) := hI.2.1 2 (by decide) (by simp only [hn])
                  simp only [flowAct, zwc, zwn]
                  simp only [e0, e2]
                  go_wp2_with (fail)
                  exact ⟨rfl, _, rfl, hI.set HGS.out 3 (by decide) (Below.refl _ _) rfl⟩
                · intro LL xs W hI hL hn
                  simp [invNeeds, Region.binds] at hn
                  have e3 : xs 3 = .pointer (some ⟨bg, og + ii * 2, none⟩) := hI.2.1 3 (by decide) (by simp only [hn])
                  simp only [flowAct, zwc, zwn]
                  simp only [e3]
                  go_wp2_with (fail)
                  exact ⟨rfl, _, rfl, hI.set HGS.out 4 (by decide) (Below.refl _ _) rfl⟩
                · intro LL xs W hI hL hn
                  obtain ⟨g0, g1⟩ := HGT.out W (HB8.out.trans (hI.below.mono HB8.out.size))
                  simp [invNeeds, Region.binds] at hn
                  have e4 : xs 4 = .pointer (some ⟨bg, og + ii * 2 + 1, none⟩) := hI.2.1 4 (by decide) (by simp only [hn])
                  simp only [flowAct, zwc, zwn]
                  simp only [e4]
                  go_wp2_with (fail)
                  exact ⟨rfl, _, rfl, hI.set HGS.out 5 (by decide) (Below.refl _ _) rfl⟩
                · intro LL xs W hI hL hn
                  simp only [flowAct, zwc, zwn]
                  go_wp2_with (fail)
                  exact ⟨rfl, _, rfl, hI.set HGS.out 6 (by decide) (Below.refl _ _) rfl⟩
                · intro LL xs W hI hL hn
                  obtain ⟨c0, c1, c2, c3, c4, c5, c6⟩ := ch_cells (heap_below HR8.out hI.below)
                  simp [invNeeds, Region.binds] at hn
                  have e6 : xs 6 = .pointer (some ⟨B, 2, none⟩) := hI.2.1 6 (by decide) (by simp only [hn])
                  simp only [flowAct, zwc, zwn]
                  simp only [e6]
                  go_wp2_with (fail)
                  exact ⟨rfl, _, rfl, hI.set HGS.out 7 (by decide) (Below.refl _ _) rfl⟩
                · intro LL xs W hI hL hn
                  simp only [flowAct, zwc, zwn]
                  go_wp2_with (fail)
                  exact ⟨rfl, _, rfl, hI.set HGS.out 8 (by decide) (Below.refl _ _) rfl⟩
                · intro LL xs W hI hL hn
                  obtain ⟨c0, c1, c2, c3, c4, c5, c6⟩ := ch_cells (heap_below HR8.out hI.below)
                  simp [invNeeds, Region.binds] at hn
                  have e8 : xs 8 = .pointer (some ⟨B, 4, none⟩) := hI.2.1 8 (by decide) (by simp only [hn])
                  simp only [flowAct, zwc, zwn]
                  simp only [e8]
                  go_wp2_with (fail)
                  exact ⟨rfl, _, rfl, hI.set HGS.out 9 (by decide) (Below.refl _ _) rfl⟩
                · intro LL xs W hI hL hn
                  simp only [flowAct, zwc, zwn]
                  go_wp2_with (fail)
                  exact ⟨rfl, _, rfl, hI.set HGS.out 10 (by decide) (Below.refl _ _) rfl⟩
                · intro LL xs W hI hL hn
                  obtain ⟨w0, w1, w2, w3⟩ := wr_cells (heap_below HS8.out hI.below)
                  simp [invNeeds, Region.binds] at hn
                  have e10 : xs 10 = .pointer (some ⟨gw, 2, none⟩) := hI.2.1 10 (by decide) (by simp only [hn])
                  simp only [flowAct, zwc, zwn]
                  simp only [e10]
                  go_wp2_with (fail)
                  exact ⟨rfl, _, rfl, hI.set HGS.out 11 (by decide) (Below.refl _ _) rfl⟩
                · intro LL xs W hI hL hn
                  simp only [flowAct, zwc, zwn]
                  go_wp2_with (fail)
                  exact ⟨rfl, _, rfl, hI.set HGS.out 12 (by decide) (Below.refl _ _) rfl⟩
                · intro LL xs W hI hL hn
                  obtain ⟨w0, w1, w2, w3⟩ := wr_cells (heap_below HS8.out hI.below)
                  simp [invNeeds, Region.binds] at hn
                  have e12 : xs 12 = .pointer (some ⟨gw, 3, none⟩) := hI.2.1 12 (by decide) (by simp only [hn])
                  simp only [flowAct, zwc, zwn]
                  simp only [e12]
                  go_wp2_with (fail)
                  exact ⟨rfl, _, rfl, hI.set HGS.out 13 (by decide) (Below.refl _ _) rfl⟩
                · intro LL xs W hI hL hn
                  simp [invNeeds, Region.binds] at hn
                  have e5 : xs 5 = .int .i64 pk := hI.2.1 5 (by decide) (by simp only [hn])
                  have e7 : xs 7 = .agg #[.int .i64 n, .int .i64 s] := hI.2.1 7 (by decide) (by simp only [hn])
                  have e9 : xs 9 = .agg #[.int .i64 a, .int .i64 b] := hI.2.1 9 (by decide) (by simp only [hn])
                  have e11 : xs 11 = .bool gx := hI.2.1 11 (by decide) (by simp only [hn])
                  have e13 : xs 13 = .string (text vx) := hI.2.1 13 (by decide) (by simp only [hn])
                  simp only [flowAct, zwc, zwn]
                  simp only [e5, e7, e9, e11, e13]
                  go_wp2_with (go_at_call 120; (with_reducible refine (HCO.out _).mono ?_); rintro e9 w9 ⟨rfl, hb9⟩)
                  exact ⟨rfl, _, rfl, hI.set HGS.out 14 (by decide) hb9 rfl⟩
                · intro LL xs W hI hL hn
                  simp [invNeeds, Region.binds] at hn
                  have e14 : xs 14 = .tuple #[.agg #[.int .i64 n9, .int .i64 s9, .int .i64 a9, .int .i64 b9, .bool g9, .string (text t9), .int .i64 d9, .int .i64 e9], .int .i64 f9] := hI.2.1 14 (by decide) (by simp only [hn])
                  simp only [flowAct, zwc, zwn]
                  simp only [e14]
                  go_wp2_with (fail)
                  exact ⟨rfl, _, rfl, hI.set HGS.out 15 (by decide) (Below.refl _ _) rfl⟩
                · intro LL xs W hI hL hn
                  simp [invNeeds, Region.binds] at hn
                  have e15 : xs 15 = .tuple #[.agg #[.int .i64 n9, .int .i64 s9, .int .i64 a9, .int .i64 b9, .bool g9, .string (text t9), .int .i64 d9, .int .i64 e9], .int .i64 f9] := hI.2.1 15 (by decide) (by simp only [hn])
                  simp only [flowAct, zwc, zwn]
                  simp only [e15]
                  go_wp2_with (fail)
                  exact ⟨rfl, _, rfl, hI.set HGS.out 16 (by decide) (Below.refl _ _) rfl⟩
                · intro LL xs W hI hL hn
                  simp [invNeeds, Region.binds] at hn
                  have e15 : xs 15 = .tuple #[.agg #[.int .i64 n9, .int .i64 s9, .int .i64 a9, .int .i64 b9, .bool g9, .string (text t9), .int .i64 d9, .int .i64 e9], .int .i64 f9] := hI.2.1 15 (by decide) (by simp only [hn])
                  simp only [flowAct, zwc, zwn]
                  simp only [e15]
                  go_wp2_with (fail)
                  exact ⟨rfl, _, rfl, hI.set HGS.out 17 (by decide) (Below.refl _ _) rfl⟩
                · intro LL xs W hI hL hn
                  simp only [flowAct, zwc, zwn]
                  go_wp2_with (fail)
                  exact ⟨rfl, _, rfl, hI.alloc HGS.out 0 (by decide) rfl hL⟩
                · intro LL xs W hI hL hn
                  simp [invNeeds, Region.binds] at hn
                  obtain ⟨hk, hv⟩ : LL 18 = true ∧ LL 16 = true := by simp only [hn, and_self]
                  obtain ⟨g5, cs5, eg, lg, hgc, hz5⟩ := hI.2.2.1 0 (by decide) hk
                  rw [if_neg (by rw [show LL (18 + 1 + 0) = false from hL]; decide)] at hz5
                  subst hz5
                  have e0 : xs 16 = .agg #[.int .i64 n9, .int .i64 s9, .int .i64 a9, .int .i64 b9, .bool g9, .string (text t9), .int .i64 d9, .int .i64 e9] := hI.2.1 16 (by decide) hv
                  have e1 : xs 18 = .pointer (some ⟨g5, 0, none⟩) := eg
                  have hc5 : Cel W g5 0 0 0 0 false [] 0 0 := hgc
                  obtain ⟨p0, p1, p2, p3, p4, p5, p6, p7⟩ := hc5.cs
                  have pfz := hc5.fz
                  simp only [flowAct, zwc, zwn]
                  simp only [e0, e1]
                  go_wp2_with (fail)
                  exact ⟨rfl, undef, rfl, hI.store HGS.out 0 (by decide) rfl rfl hk eg rfl (Wrote.cell8 hc5 n9 s9 a9 b9 g9 t9 d9 e9) undef⟩
                · intro LL xs W hI hL hn
                  simp [invNeeds, Region.binds] at hn
                  have e17 : xs 17 = .int .i64 f9 := hI.2.1 17 (by decide) (by simp only [hn])
                  simp only [flowAct, zwc, zwn]
                  simp only [e17]
                  go_wp2_with (fail)
                  exact ⟨rfl, _, rfl, hI.other 20 (by decide) _⟩
              · intro LL xs W hI hall
                obtain ⟨hW, -, hP, -,-⟩ := hI
                obtain ⟨gx9, cs7, e7, l7, h7, g7⟩ := hP 0 (by decide) (hall 18 (by decide))
                rw [if_pos (hall (18 + 1 + 0) (by decide))] at g7
                have g7 : Value.agg cs7 = .agg #[.int .i64 n9, .int .i64 s9, .int .i64 a9, .int .i64 b9, .bool g9, .string (text t9), .int .i64 d9, .int .i64 e9] := g7
                injection g7 with g7
                subst g7
                clear g7
                replace e7 : xs 18 = _ := e7
                clear hP hall
                simp only [flowAct, zwc, zwn]
                simp only [e7]
                have hbk := HB8.out.trans (hW.mono HB8.out.size)
                have hrk := heap_below HR8.out hW
                have hsk := heap_below HS8.out hW
                have hok := HO8.out.kept hW
                have hoc := HOC8.out.kept hW
                have hlc := fun W' (h : Below W.heap.size W W') => HLC8.out W' (hW.trans (h.mono hW.size))
                have hce : Cel W gx9 n9 s9 a9 b9 g9 t9 d9 e9 := h7
                clear e7 h7 hW HGS HGT
                obtain ⟨WK, hWK⟩ : ∃ X, W = X := ⟨_, rfl⟩
                rw [hWK] at hbk hrk hsk hok hoc hlc hce ⊢
                clear hWK HB8 HR8 HS8 HO8 HOC8 HLC8
                have HB7 := Lib.hid hbk
                have HR7 := Lib.hid hrk
                have HS7 := Lib.hid hsk
                have HO7 := Lib.hid hok
                have HOC7 := Lib.hid hoc
                have HLC7 := Lib.hid hlc
                have HCE := Lib.hid hce
                clear hbk hrk hsk hok hoc hlc hce
                go_upto_region 12 with (fail)
                refine wp_region_flow_tail 10 [none,none,none,none,none,none,none,none,none,none,none,none,none,none,none,none,none,none,none,none,none,none,none,none,none,none,none,none,none,none,none,none,none,none,none,none,none,none,none,none,none,none,none,none,none,none,none,none,none,none,none,none,none,none,none,none,none,none,none,none,none,none,none,none,none,none,none,none,none,none,none, some 0, some 1, some 2, some 3, some 4, some 5, some 6, some 7, some 8, some 9, none,none,none] (fun i => [u71, u72, u73, u74, u75, u76, u77, u78, u79, u80].getD i undef) [(fun v _ => v = .slice (some ⟨br9, offr9, none⟩) M9 ct'), (fun v _ => v = .slice (some ⟨br9, offr9, none⟩) M9 ct'), (fun v _ => v = .int .i64 (M9 : Int)), (fun v _ => v = .int .i64 (((p + 1) : Nat) : Int)), (fun v _ => v = .pointer (some ⟨br9, offr9 + (p + 1) * 2, none⟩)), (fun v _ => v = .pointer (some ⟨br9, offr9 + (p + 1) * 2 + 1, none⟩)), (fun v _ => v = .slice (some ⟨gc, 0, none⟩) n1 cc), (fun v _ => v = .pointer (some ⟨gw, 1, none⟩)), (fun v _ => v = .int .i64 (ii : Int)), (fun v _ => v = .agg #[.int .i64 n9, .int .i64 s9, .int .i64 a9, .int .i64 b9, .bool g9, .string (text t9), .int .i64 d9, .int .i64 e9])] (fun _ => False) (by kernel_rfl) (by kernel_rfl) (by kernel_rfl) rfl rfl rfl ?_ ?_ ?_
                · intro g hg v X Y hX hY hv
                  simp only [List.mem_cons, List.not_mem_nil, or_false] at hg
                  rcases hg with rfl | rfl | rfl | rfl | rfl | rfl | rfl | rfl | rfl | rfl
                  all_goals first
                    | exact hv
                    | exact hv.kept hY
                · simp only [flowOpsF, List.take_succ_cons, List.take_zero, and_true]
                  refine ⟨?_,?_,?_,?_,?_,?_,?_,?_,?_,?_⟩
                  · intro xs W hW hn
                    simp only [flowAct, zwc, zwn]
                    go_wp2_with (fail)
                    exact ⟨rfl, _, rfl, Below.refl _ _, rfl, fun h => h.elim⟩
                  · intro xs W hW hn
                    simp only [flowAct, zwc, zwn]
                    go_wp2_with (fail)
                    exact ⟨rfl, _, rfl, Below.refl _ _, rfl, fun h => h.elim⟩
                  · intro xs W hW hn
                    simp [flowNeeds, Region.binds] at hn
                    simp only [flowAct, zwc, zwn]
                    try simp only [hn]
                    go_wp2_with (fail)
                    exact ⟨rfl, _, rfl, Below.refl _ _, rfl, fun h => h.elim⟩
                  · intro xs W hW hn
                    have hm9 := HM9.out
                    simp [flowNeeds, Region.binds] at hn
                    simp only [flowAct, zwc, zwn]
                    simp only [hn]
                    go_wp2_with (fail)
                    exact ⟨rfl, _, rfl, Below.refl _ _, by first | rfl | go_num, fun h => h.elim⟩
                  · intro xs W hW hn
                    simp [flowNeeds, Region.binds] at hn
                    simp only [flowAct, zwc, zwn]
                    try simp only [hn]
                    go_wp2_with (fail)
                    exact ⟨rfl, _, rfl, Below.refl _ _, rfl, fun h => h.elim⟩
                  · intro xs W hW hn
                    simp [flowNeeds, Region.binds] at hn
                    simp only [flowAct, zwc, zwn]
                    try simp only [hn]
                    go_wp2_with (fail)
                    exact ⟨rfl, _, rfl, Below.refl _ _, rfl, fun h => h.elim⟩
                  · intro xs W hW hn
                    obtain ⟨r0, r1⟩ := HLC7.out W hW
                    simp [flowNeeds, Region.binds] at hn
                    simp only [flowAct, zwc, zwn]
                    try simp only [hn]
                    go_wp2_with (fail)
                    exact ⟨rfl, _, rfl, Below.refl _ _, rfl, fun h => h.elim⟩
                  · intro xs W hW hn
                    simp only [flowAct, zwc, zwn]
                    go_wp2_with (fail)
                    exact ⟨rfl, _, rfl, Below.refl _ _, rfl, fun h => h.elim⟩
                  · intro xs W hW hn
                    obtain ⟨w0, w1, w2, w3⟩ := wr_cells (heap_below HS7.out hW)
                    simp [flowNeeds, Region.binds] at hn
                    simp only [flowAct, zwc, zwn]
                    try simp only [hn]
                    go_wp2_with (fail)
                    exact ⟨rfl, _, rfl, Below.refl _ _, rfl, fun h => h.elim⟩
                  · intro xs W hW hn
                    obtain ⟨p0, p1, p2, p3, p4, p5, p6, p7⟩ := (HCE.out.kept hW).cs
                    simp only [flowAct, zwc, zwn]
                    go_wp2_with (fail)
                    exact ⟨rfl, _, rfl, Below.refl _ _, rfl, fun h => h.elim⟩
                · intro xs W hW hall hfr
                  clear hfr
                  simp only [flowAll, and_true, Nat.zero_add, Nat.reduceAdd] at hall
                  obtain ⟨-,-,-,-,-,-, y6, -, y8, y9⟩ := hall
                  simp only [flowAct, zwc, zwn, List.drop_succ_cons, List.drop_zero]
                  simp only [y6, y8, y9]
                  have HBx := Lib.hid (HB7.out.trans (hW.mono HB7.out.size))
                  have HRx := Lib.hid (heap_below HR7.out hW)
                  have HOx := Lib.hid (HO7.out.kept hW)
                  have HOCx := Lib.hid (HOC7.out.kept hW)
                  have hlk : ii < CS.length := by have := HCS8.out; omega
                  have HLK := Lib.hid hlk
                  have pfz := own_fz HOCx.out
                  obtain ⟨p0, p1, p2, p3, p4, p5, p6, p7⟩ := own_at HOCx.out hlk _ (Below.refl _ _)
                  clear y6 y8 y9 hW hlk
                  go_wp2
                  go_roundw
                  case rel => exact ⟨k + 1, _, LT.set (p + 1) ⟨kx, .slice (some ⟨gc, 0, none⟩) n1 cc, CS.set ii ⟨n9, s9, a9, b9, g9, t9, d9, e9⟩⟩, by omega, by go_num, rfl, (by have hst := OwnRw.store HOx.out (j := (p + 1)) (by rw [HTL.out]; omega) (by rw [HLPn.out]; exact put_only (k := ii) n9 s9 a9 b9 g9 t9 d9 e9) (by rw [HLPn.out]; exact own_put HOCx.out HLK.out n9 s9 a9 b9 g9 t9 d9 e9) (by rw [List.length_set]; exact HCS8.out) hn0; rw [HLPn.out] at hst; exact hst), HPUT.out, cells_put_below (k := ii) HBx.out HGC.out n9 s9 a9 b9 g9 t9 d9 e9, ((put_only (g := gc) (m := n1) (c := cc) (k := ii) n9 s9 a9 b9 g9 t9 d9 e9).rest B (own_ne HRx.out (by decide) HOCx.out)).trans HRx.out⟩
                  case measure => simp [intOf]; omega
            | true =>
              obtain rfl : kx = kl := by have h9 := HQ9.out; exact (by simpa using h9 : kx = kl)
              have HGC := Lib.hid hgcB
              have HPUT := Lib.hid (show (L.set p (⟨kx, .slice (some ⟨gc, 0, none⟩) n1 cc, csl.set ii ⟨n9, s9, a9, b9, g9, t9, d9, e9⟩⟩ : Rw)).map Rw.pr = wrowN gs n s a b l (k + 1) by
                have h := put_old (n1 := n1) (L := L) (R := L.map Rw.pr) (k := kx) (i := ii) (x := ⟨n9, s9, a9, b9, g9, t9, d9, e9⟩) rfl HLL.out (by rw [HLP.out])
                rw [HLP.out] at h
                rw [HN.out]; exact h)
              obtain ⟨LT, hLT⟩ : ∃ z, L = z := ⟨_, rfl⟩
              rw [hLT] at HLL HOT HLP HPUT
              have HTL := Lib.hid HLL.out
              have HB8 := Lib.hid HBT.out
              have HR8 := Lib.hid HRT.out
              have HS8 := Lib.hid HST.out
              have HO8 := Lib.hid HOT.out
              have HOC8 := Lib.hid HOCT.out
              have HLC8 := Lib.hid HLCT.out
              have HCS8 := Lib.hid HCS.out
              obtain ⟨CS, hCS⟩ : ∃ z, csl = z := ⟨_, rfl⟩
              rw [hCS] at HLP HPUT HOC8 HCS8
              clear hCS hLT HBT HRT HST HOT HOCT HLCT HOC HLC HCS
              go_upto_region 11 with (fail)
              obtain ⟨M9, hM9⟩ : ∃ z, p + 1 = z := ⟨_, rfl⟩
              rw [hM9] at HO8 hct1 ⊢
              have HM9 := Lib.hid (show (M9 : Int) - 1 = ((p : Nat) : Int) by omega)
              have hM8 : ((p : Nat) : Int) < (M9 : Int) := by omega
              have hM7 : ((p : Nat) : Int) < (cl : Int) := by omega
              have HMM := Lib.hid hM9
              clear hM9
              have HGS := Lib.hid (show GSt 75 (fun i v _ => v = [.slice (some ⟨bg, og, none⟩) n1 cap, .pointer (some ⟨gw, 1, none⟩), .int .i64 (ii : Int), .pointer (some ⟨bg, og + ii * 2, none⟩), .pointer (some ⟨bg, og + ii * 2 + 1, none⟩), .int .i64 pk, .pointer (some ⟨B, 2, none⟩), .agg #[.int .i64 n, .int .i64 s], .pointer (some ⟨B, 4, none⟩), .agg #[.int .i64 a, .int .i64 b], .pointer (some ⟨gw, 2, none⟩), .bool gx, .pointer (some ⟨gw, 3, none⟩), .string (text vx), .tuple #[.agg #[.int .i64 n9, .int .i64 s9, .int .i64 a9, .int .i64 b9, .bool g9, .string (text t9), .int .i64 d9, .int .i64 e9], .int .i64 f9], .tuple #[.agg #[.int .i64 n9, .int .i64 s9, .int .i64 a9, .int .i64 b9, .bool g9, .string (text t9), .int .i64 d9, .int .i64 e9], .int .i64 f9], .agg #[.int .i64 n9, .int .i64 s9, .int .i64 a9, .int .i64 b9, .bool g9, .string (text t9), .int .i64 d9, .int .i64 e9], .int .i64 f9].getD i undef) from ⟨fun i v X Y h _ => h, fun i v X Y q cs ds _ _ h => h⟩)
              refine wp_region_inv [none,none,none,none,none,none,none,none,none,none,none,none, some 18, some 20, none,none,none,none,none,none,none,none,none,none,none,none,none,none,none,none,none,none,none,none,none,none,none,none,none,none,none,none,none,none,none,none,none,none,none,none,none,none,none, some 15, some 0, some 1, some 2, some 3, some 4, some 5, some 6, some 7, some 8, some 9, some 10, some 11, some 12, some 13, some 14, some 16, some 17, none,none,none,none,none,none,none,none,none,none,none,none,none] (fun i => [u54, u55, u56, u57, u58, u59, u60, u61, u62, u63, u64, u65, u66, u67, u68, u53, u69, u70, u12, undef, u13].getD i undef) (LayG 18 1 75 #[.int .i64 0, .int .i64 0, .int .i64 0, .int .i64 0, .bool false, .string ⟨#[]⟩, .int .i64 0, .int .i64 0] (fun i v _ => v = [.slice (some ⟨bg, og, none⟩) n1 cap, .pointer (some ⟨gw, 1, none⟩), .int .i64 (ii : Int), .pointer (some ⟨bg, og + ii * 2, none⟩), .pointer (some ⟨bg, og + ii * 2 + 1, none⟩), .int .i64 pk, .pointer (some ⟨B, 2, none⟩), .agg #[.int .i64 n, .int .i64 s], .pointer (some ⟨B, 4, none⟩), .agg #[.int .i64 a, .int .i64 b], .pointer (some ⟨gw, 2, none⟩), .bool gx, .pointer (some ⟨gw, 3, none⟩), .string (text vx), .tuple #[.agg #[.int .i64 n9, .int .i64 s9, .int .i64 a9, .int .i64 b9, .bool g9, .string (text t9), .int .i64 d9, .int .i64 e9], .int .i64 f9], .tuple #[.agg #[.int .i64 n9, .int .i64 s9, .int .i64 a9, .int .i64 b9, .bool g9, .string (text t9), .int .i64 d9, .int .i64 e9], .int .i64 f9], .agg #[.int .i64 n9, .int .i64 s9, .int .i64 a9, .int .i64 b9, .bool g9, .string (text t9), .int .i64 d9, .int .i64 e9], .int .i64 f9].getD i undef) (fun _ => 16) WK) (by kernel_rfl) (by kernel_rfl) rfl rfl (fun LL hL => LayG.start fun i hi => hL i (Nat.lt_of_lt_of_le hi (by decide))) ?_ ?_
              · simp only [invOps, and_true]
                refine ⟨?_,?_,?_,?_,?_,?_,?_,?_,?_,?_,?_,?_,?_,?_,?_,?_,?_,?_,?_,?_,?_⟩
                · intro LL xs W hI hL hn
                  simp only [flowAct, zwc, zwn]
                  go_wp2_with (fail)
                  exact ⟨rfl, _, rfl, hI.set HGS.out 0 (by decide) (Below.refl _ _) rfl⟩
                · intro LL xs W hI hL hn
                  simp only [flowAct, zwc, zwn]
                  go_wp2_with (fail)
                  exact ⟨rfl, _, rfl, hI.set HGS.out 1 (by decide) (Below.refl _ _) rfl⟩
                · intro LL xs W hI hL hn
                  obtain ⟨w0, w1, w2, w3⟩ := wr_cells (heap_below HS8.out hI.below)
                  simp [invNeeds, Region.binds] at hn
                  have e1 : xs 1 = .pointer (some ⟨gw, 1, none⟩) := hI.2.1 1 (by decide) (by simp only [hn])
                  simp only [flowAct, zwc, zwn]
                  simp only [e1]
                  go_wp2_with (fail)
                  exact ⟨rfl, _, rfl, hI.set HGS.out 2 (by decide) (Below.refl _ _) rfl⟩
                · intro LL xs W hI hL hn
                  simp [invNeeds, Region.binds] at hn
                  have e0 : xs 0 = .slice (some ⟨bg, og, none⟩) n1 cap := hI.2.1 0 (by decide) (by simp only [hn])
                  have e2 : xs 2 = .int .i64 (ii : Int) := hI.2.1 2 (by decide) (by simp only [hn])
                  simp only [flowAct, zwc, zwn]
                  simp only [e0, e2]
                  go_wp2_with (fail)
                  exact ⟨rfl, _, rfl, hI.set HGS.out 3 (by decide) (Below.refl _ _) rfl⟩
                · intro LL xs W hI hL hn
                  simp [invNeeds, Region.binds] at hn
                  have e3 : xs 3 = .pointer (some ⟨bg, og + ii * 2, none⟩) := hI.2.1 3 (by decide) (by simp only [hn])
                  simp only [flowAct, zwc, zwn]
                  simp only [e3]
                  go_wp2_with (fail)
                  exact ⟨rfl, _, rfl, hI.set HGS.out 4 (by decide) (Below.refl _ _) rfl⟩
                · intro LL xs W hI hL hn
                  obtain ⟨g0, g1⟩ := HGT.out W (HB8.out.trans (hI.below.mono HB8.out.size))
                  simp [invNeeds, Region.binds] at hn
                  have e4 : xs 4 = .pointer (some ⟨bg, og + ii * 2 + 1, none⟩) := hI.2.1 4 (by decide) (by simp only [hn])
                  simp only [flowAct, zwc, zwn]
                  simp only [e4]
                  go_wp2_with (fail)
                  exact ⟨rfl, _, rfl, hI.set HGS.out 5 (by decide) (Below.refl _ _) rfl⟩
                · intro LL xs W hI hL hn
                  simp only [flowAct, zwc, zwn]
                  go_wp2_with (fail)
                  exact ⟨rfl, _, rfl, hI.set HGS.out 6 (by decide) (Below.refl _ _) rfl⟩
                · intro LL xs W hI hL hn
                  obtain ⟨c0, c1, c2, c3, c4, c5, c6⟩ := ch_cells (heap_below HR8.out hI.below)
                  simp [invNeeds, Region.binds] at hn
                  have e6 : xs 6 = .pointer (some ⟨B, 2, none⟩) := hI.2.1 6 (by decide) (by simp only [hn])
                  simp only [flowAct, zwc, zwn]
                  simp only [e6]
                  go_wp2_with (fail)
                  exact ⟨rfl, _, rfl, hI.set HGS.out 7 (by decide) (Below.refl _ _) rfl⟩
                · intro LL xs W hI hL hn
                  simp only [flowAct, zwc, zwn]
                  go_wp2_with (fail)
                  exact ⟨rfl, _, rfl, hI.set HGS.out 8 (by decide) (Below.refl _ _) rfl⟩
                · intro LL xs W hI hL hn
                  obtain ⟨c0, c1, c2, c3, c4, c5, c6⟩ := ch_cells (heap_below HR8.out hI.below)
                  simp [invNeeds, Region.binds] at hn
                  have e8 : xs 8 = .pointer (some ⟨B, 4, none⟩) := hI.2.1 8 (by decide) (by simp only [hn])
                  simp only [flowAct, zwc, zwn]
                  simp only [e8]
                  go_wp2_with (fail)
                  exact ⟨rfl, _, rfl, hI.set HGS.out 9 (by decide) (Below.refl _ _) rfl⟩
                · intro LL xs W hI hL hn
                  simp only [flowAct, zwc, zwn]
                  go_wp2_with (fail)
                  exact ⟨rfl, _, rfl, hI.set HGS.out 10 (by decide) (Below.refl _ _) rfl⟩
                · intro LL xs W hI hL hn
                  obtain ⟨w0, w1, w2, w3⟩ := wr_cells (heap_below HS8.out hI.below)
                  simp [invNeeds, Region.binds] at hn
                  have e10 : xs 10 = .pointer (some ⟨gw, 2, none⟩) := hI.2.1 10 (by decide) (by simp only [hn])
                  simp only [flowAct, zwc, zwn]
                  simp only [e10]
                  go_wp2_with (fail)
                  exact ⟨rfl, _, rfl, hI.set HGS.out 11 (by decide) (Below.refl _ _) rfl⟩
                · intro LL xs W hI hL hn
                  simp only [flowAct, zwc, zwn]
                  go_wp2_with (fail)
                  exact ⟨rfl, _, rfl, hI.set HGS.out 12 (by decide) (Below.refl _ _) rfl⟩
                · intro LL xs W hI hL hn
                  obtain ⟨w0, w1, w2, w3⟩ := wr_cells (heap_below HS8.out hI.below)
                  simp [invNeeds, Region.binds] at hn
                  have e12 : xs 12 = .pointer (some ⟨gw, 3, none⟩) := hI.2.1 12 (by decide) (by simp only [hn])
                  simp only [flowAct, zwc, zwn]
                  simp only [e12]
                  go_wp2_with (fail)
                  exact ⟨rfl, _, rfl, hI.set HGS.out 13 (by decide) (Below.refl _ _) rfl⟩
                · intro LL xs W hI hL hn
                  simp [invNeeds, Region.binds] at hn
                  have e5 : xs 5 = .int .i64 pk := hI.2.1 5 (by decide) (by simp only [hn])
                  have e7 : xs 7 = .agg #[.int .i64 n, .int .i64 s] := hI.2.1 7 (by decide) (by simp only [hn])
                  have e9 : xs 9 = .agg #[.int .i64 a, .int .i64 b] := hI.2.1 9 (by decide) (by simp only [hn])
                  have e11 : xs 11 = .bool gx := hI.2.1 11 (by decide) (by simp only [hn])
                  have e13 : xs 13 = .string (text vx) := hI.2.1 13 (by decide) (by simp only [hn])
                  simp only [flowAct, zwc, zwn]
                  simp only [e5, e7, e9, e11, e13]
                  go_wp2_with (go_at_call 120; (with_reducible refine (HCO.out _).mono ?_); rintro e9 w9 ⟨rfl, hb9⟩)
                  exact ⟨rfl, _, rfl, hI.set HGS.out 14 (by decide) hb9 rfl⟩
                · intro LL xs W hI hL hn
                  simp [invNeeds, Region.binds] at hn
                  have e14 : xs 14 = .tuple #[.agg #[.int .i64 n9, .int .i64 s9, .int .i64 a9, .int .i64 b9, .bool g9, .string (text t9), .int .i64 d9, .int .i64 e9], .int .i64 f9] := hI.2.1 14 (by decide) (by simp only [hn])
                  simp only [flowAct, zwc, zwn]
                  simp only [e14]
                  go_wp2_with (fail)
                  exact ⟨rfl, _, rfl, hI.set HGS.out 15 (by decide) (Below.refl _ _) rfl⟩
                · intro LL xs W hI hL hn
                  simp [invNeeds, Region.binds] at hn
                  have e15 : xs 15 = .tuple #[.agg #[.int .i64 n9, .int .i64 s9, .int .i64 a9, .int .i64 b9, .bool g9, .string (text t9), .int .i64 d9, .int .i64 e9], .int .i64 f9] := hI.2.1 15 (by decide) (by simp only [hn])
                  simp only [flowAct, zwc, zwn]
                  simp only [e15]
                  go_wp2_with (fail)
                  exact ⟨rfl, _, rfl, hI.set HGS.out 16 (by decide) (Below.refl _ _) rfl⟩
                · intro LL xs W hI hL hn
                  simp [invNeeds, Region.binds] at hn
                  have e15 : xs 15 = .tuple #[.agg #[.int .i64 n9, .int .i64 s9, .int .i64 a9, .int .i64 b9, .bool g9, .string (text t9), .int .i64 d9, .int .i64 e9], .int .i64 f9] := hI.2.1 15 (by decide) (by simp only [hn])
                  simp only [flowAct, zwc, zwn]
                  simp only [e15]
                  go_wp2_with (fail)
                  exact ⟨rfl, _, rfl, hI.set HGS.out 17 (by decide) (Below.refl _ _) rfl⟩
                · intro LL xs W hI hL hn
                  simp only [flowAct, zwc, zwn]
                  go_wp2_with (fail)
                  exact ⟨rfl, _, rfl, hI.alloc HGS.out 0 (by decide) rfl hL⟩
                · intro LL xs W hI hL hn
                  simp [invNeeds, Region.binds] at hn
                  obtain ⟨hk, hv⟩ : LL 18 = true ∧ LL 16 = true := by simp only [hn, and_self]
                  obtain ⟨g5, cs5, eg, lg, hgc, hz5⟩ := hI.2.2.1 0 (by decide) hk
                  rw [if_neg (by rw [show LL (18 + 1 + 0) = false from hL]; decide)] at hz5
                  subst hz5
                  have e0 : xs 16 = .agg #[.int .i64 n9, .int .i64 s9, .int .i64 a9, .int .i64 b9, .bool g9, .string (text t9), .int .i64 d9, .int .i64 e9] := hI.2.1 16 (by decide) hv
                  have e1 : xs 18 = .pointer (some ⟨g5, 0, none⟩) := eg
                  have hc5 : Cel W g5 0 0 0 0 false [] 0 0 := hgc
                  obtain ⟨p0, p1, p2, p3, p4, p5, p6, p7⟩ := hc5.cs
                  have pfz := hc5.fz
                  simp only [flowAct, zwc, zwn]
                  simp only [e0, e1]
                  go_wp2_with (fail)
                  exact ⟨rfl, undef, rfl, hI.store HGS.out 0 (by decide) rfl rfl hk eg rfl (Wrote.cell8 hc5 n9 s9 a9 b9 g9 t9 d9 e9) undef⟩
                · intro LL xs W hI hL hn
                  simp [invNeeds, Region.binds] at hn
                  have e17 : xs 17 = .int .i64 f9 := hI.2.1 17 (by decide) (by simp only [hn])
                  simp only [flowAct, zwc, zwn]
                  simp only [e17]
                  go_wp2_with (fail)
                  exact ⟨rfl, _, rfl, hI.other 20 (by decide) _⟩
              · intro LL xs W hI hall
                obtain ⟨hW, -, hP, -,-⟩ := hI
                obtain ⟨gx9, cs7, e7, l7, h7, g7⟩ := hP 0 (by decide) (hall 18 (by decide))
                rw [if_pos (hall (18 + 1 + 0) (by decide))] at g7
                have g7 : Value.agg cs7 = .agg #[.int .i64 n9, .int .i64 s9, .int .i64 a9, .int .i64 b9, .bool g9, .string (text t9), .int .i64 d9, .int .i64 e9] := g7
                injection g7 with g7
                subst g7
                clear g7
                replace e7 : xs 18 = _ := e7
                clear hP hall
                simp only [flowAct, zwc, zwn]
                simp only [e7]
                have hbk := HB8.out.trans (hW.mono HB8.out.size)
                have hrk := heap_below HR8.out hW
                have hsk := heap_below HS8.out hW
                have hok := HO8.out.kept hW
                have hoc := HOC8.out.kept hW
                have hlc := fun W' (h : Below W.heap.size W W') => HLC8.out W' (hW.trans (h.mono hW.size))
                have hce : Cel W gx9 n9 s9 a9 b9 g9 t9 d9 e9 := h7
                clear e7 h7 hW HGS HGT
                obtain ⟨WK, hWK⟩ : ∃ X, W = X := ⟨_, rfl⟩
                rw [hWK] at hbk hrk hsk hok hoc hlc hce ⊢
                clear hWK HB8 HR8 HS8 HO8 HOC8 HLC8
                have HB7 := Lib.hid hbk
                have HR7 := Lib.hid hrk
                have HS7 := Lib.hid hsk
                have HO7 := Lib.hid hok
                have HOC7 := Lib.hid hoc
                have HLC7 := Lib.hid hlc
                have HCE := Lib.hid hce
                clear hbk hrk hsk hok hoc hlc hce
                go_upto_region 12 with (fail)
                refine wp_region_flow_tail 10 [none,none,none,none,none,none,none,none,none,none,none,none,none,none,none,none,none,none,none,none,none,none,none,none,none,none,none,none,none,none,none,none,none,none,none,none,none,none,none,none,none,none,none,none,none,none,none,none,none,none,none,none,none,none,none,none,none,none,none,none,none,none,none,none,none,none,none,none,none,none,none, some 0, some 1, some 2, some 3, some 4, some 5, some 6, some 7, some 8, some 9, none,none,none] (fun i => [u71, u72, u73, u74, u75, u76, u77, u78, u79, u80].getD i undef) [(fun v _ => v = .slice (some ⟨br, offr, none⟩) M9 cl), (fun v _ => v = .slice (some ⟨br, offr, none⟩) M9 cl), (fun v _ => v = .int .i64 (M9 : Int)), (fun v _ => v = .int .i64 ((p : Nat) : Int)), (fun v _ => v = .pointer (some ⟨br, offr + p * 2, none⟩)), (fun v _ => v = .pointer (some ⟨br, offr + p * 2 + 1, none⟩)), (fun v _ => v = .slice (some ⟨gc, 0, none⟩) n1 cc), (fun v _ => v = .pointer (some ⟨gw, 1, none⟩)), (fun v _ => v = .int .i64 (ii : Int)), (fun v _ => v = .agg #[.int .i64 n9, .int .i64 s9, .int .i64 a9, .int .i64 b9, .bool g9, .string (text t9), .int .i64 d9, .int .i64 e9])] (fun _ => False) (by kernel_rfl) (by kernel_rfl) (by kernel_rfl) rfl rfl rfl ?_ ?_ ?_
                · intro g hg v X Y hX hY hv
                  simp only [List.mem_cons, List.not_mem_nil, or_false] at hg
                  rcases hg with rfl | rfl | rfl | rfl | rfl | rfl | rfl | rfl | rfl | rfl
                  all_goals first
                    | exact hv
                    | exact hv.kept hY
                · simp only [flowOpsF, List.take_succ_cons, List.take_zero, and_true]
                  refine ⟨?_,?_,?_,?_,?_,?_,?_,?_,?_,?_⟩
                  · intro xs W hW hn
                    simp only [flowAct, zwc, zwn]
                    go_wp2_with (fail)
                    exact ⟨rfl, _, rfl, Below.refl _ _, rfl, fun h => h.elim⟩
                  · intro xs W hW hn
                    simp only [flowAct, zwc, zwn]
                    go_wp2_with (fail)
                    exact ⟨rfl, _, rfl, Below.refl _ _, rfl, fun h => h.elim⟩
                  · intro xs W hW hn
                    simp [flowNeeds, Region.binds] at hn
                    simp only [flowAct, zwc, zwn]
                    try simp only [hn]
                    go_wp2_with (fail)
                    exact ⟨rfl, _, rfl, Below.refl _ _, rfl, fun h => h.elim⟩
                  · intro xs W hW hn
                    have hm9 := HM9.out
                    simp [flowNeeds, Region.binds] at hn
                    simp only [flowAct, zwc, zwn]
                    simp only [hn]
                    go_wp2_with (fail)
                    exact ⟨rfl, _, rfl, Below.refl _ _, by first | rfl | go_num, fun h => h.elim⟩
                  · intro xs W hW hn
                    simp [flowNeeds, Region.binds] at hn
                    simp only [flowAct, zwc, zwn]
                    try simp only [hn]
                    go_wp2_with (fail)
                    exact ⟨rfl, _, rfl, Below.refl _ _, rfl, fun h => h.elim⟩
                  · intro xs W hW hn
                    simp [flowNeeds, Region.binds] at hn
                    simp only [flowAct, zwc, zwn]
                    try simp only [hn]
                    go_wp2_with (fail)
                    exact ⟨rfl, _, rfl, Below.refl _ _, rfl, fun h => h.elim⟩
                  · intro xs W hW hn
                    obtain ⟨r0, r1⟩ := HLC7.out W hW
                    simp [flowNeeds, Region.binds] at hn
                    simp only [flowAct, zwc, zwn]
                    try simp only [hn]
                    go_wp2_with (fail)
                    exact ⟨rfl, _, rfl, Below.refl _ _, rfl, fun h => h.elim⟩
                  · intro xs W hW hn
                    simp only [flowAct, zwc, zwn]
                    go_wp2_with (fail)
                    exact ⟨rfl, _, rfl, Below.refl _ _, rfl, fun h => h.elim⟩
                  · intro xs W hW hn
                    obtain ⟨w0, w1, w2, w3⟩ := wr_cells (heap_below HS7.out hW)
                    simp [flowNeeds, Region.binds] at hn
                    simp only [flowAct, zwc, zwn]
                    try simp only [hn]
                    go_wp2_with (fail)
                    exact ⟨rfl, _, rfl, Below.refl _ _, rfl, fun h => h.elim⟩
                  · intro xs W hW hn
                    obtain ⟨p0, p1, p2, p3, p4, p5, p6, p7⟩ := (HCE.out.kept hW).cs
                    simp only [flowAct, zwc, zwn]
                    go_wp2_with (fail)
                    exact ⟨rfl, _, rfl, Below.refl _ _, rfl, fun h => h.elim⟩
                · intro xs W hW hall hfr
                  clear hfr
                  simp only [flowAll, and_true, Nat.zero_add, Nat.reduceAdd] at hall
                  obtain ⟨-,-,-,-,-,-, y6, -, y8, y9⟩ := hall
                  simp only [flowAct, zwc, zwn, List.drop_succ_cons, List.drop_zero]
                  simp only [y6, y8, y9]
                  have HBx := Lib.hid (HB7.out.trans (hW.mono HB7.out.size))
                  have HRx := Lib.hid (heap_below HR7.out hW)
                  have HOx := Lib.hid (HO7.out.kept hW)
                  have HOCx := Lib.hid (HOC7.out.kept hW)
                  have hlk : ii < CS.length := by have := HCS8.out; omega
                  have HLK := Lib.hid hlk
                  have pfz := own_fz HOCx.out
                  obtain ⟨p0, p1, p2, p3, p4, p5, p6, p7⟩ := own_at HOCx.out hlk _ (Below.refl _ _)
                  clear y6 y8 y9 hW hlk
                  go_wp2
                  go_roundw
                  case rel => exact ⟨k + 1, _, LT.set p ⟨kx, .slice (some ⟨gc, 0, none⟩) n1 cc, CS.set ii ⟨n9, s9, a9, b9, g9, t9, d9, e9⟩⟩, by omega, by go_num, rfl, (by have hst := OwnRw.store HOx.out (j := p) (by rw [HTL.out]; omega) (by rw [HLP.out]; exact put_only (k := ii) n9 s9 a9 b9 g9 t9 d9 e9) (by rw [HLP.out]; exact own_put HOCx.out HLK.out n9 s9 a9 b9 g9 t9 d9 e9) (by rw [List.length_set]; exact HCS8.out) hn0; rw [HLP.out] at hst; exact hst), HPUT.out, cells_put_below (k := ii) HBx.out HGC.out n9 s9 a9 b9 g9 t9 d9 e9, ((put_only (g := gc) (m := n1) (c := cc) (k := ii) n9 s9 a9 b9 g9 t9 d9 e9).rest B (own_ne HRx.out (by decide) HOCx.out)).trans HRx.out⟩
                  case measure => simp [intOf]; omega
            
      · obtain rfl : m = k := by omega
        go_wp2
        go_ret2
        exact ⟨_, L, by rw [HRR.out]; rfl, HO.out, by rw [HRR.out]; exact HPR.out, HBr.out⟩
  · have h0n : (R != 0) = true := by simpa using h0
    have HRR := Lib.hid (HQ.out h0)
    go_wp2_with (go_at_call 118; (with_reducible refine (HGD.out _ HB1.out).mono ?_); rintro e9 w2 ⟨rfl, hb2⟩)
    go_ret2
    exact ⟨.slice none 0 0, [], by rw [HRR.out]; rfl, OwnRw.nil _ _ _, by rw [HRR.out]; rfl, HB1.out.trans (hb2.mono HB1.out.size)⟩
end Go.Proofs.Ytidbjmkfmfojdaa
end

section
namespace Go.Proofs.Ytidbjmkfmfojdaa
open Go.RowKit Go Go.Sort
set_option linter.unusedVariables false
set_option maxRecDepth 20000

/-- Places, compared. -/
def plEq (k : List UInt8) (i : Int) (k' : List UInt8) (i' : Int) : Bool := decide (k = k') && (i == i')
def hasN (ws : List Wr) (key : List UInt8) (grp : Int) : Nat → Bool
  | 0 => false
  | k + 1 => hasN ws key grp k || plEq (ws.getD k Wr.zero).k (ws.getD k Wr.zero).i key grp
end Go.Proofs.Ytidbjmkfmfojdaa
end

section
namespace Go.Proofs.Ytidbjmkfmfojdaa
open Go.RowKit Go Go.Sort
set_option linter.unusedVariables false
set_option maxRecDepth 20000

theorem cof_good {p n s a b : Int} {g : Bool} {t : List UInt8} {c : Cl} (h : cofS p n s a b g t = (c, 0)) : c.good p = true ∧ c.t.length ≤ t.length := by
  unfold cofS at h
  by_cases ha : argS p n s a b g t = true
  · rw [if_pos ha] at h
    by_cases hl : 64 < t.length
    · rw [if_pos hl] at h; simp at h
    · rw [if_neg hl] at h
      unfold argS at ha
      simp only [Bool.and_eq_true, Bool.or_eq_true, beq_iff_eq, whenS, decide_eq_true_eq] at ha
      obtain ⟨hp, ⟨hs, hn⟩, hv, hg⟩ := ha
      by_cases h2 : ((p == 2) && g) = true
      · rw [if_pos h2] at h
        simp only [Prod.mk.injEq, and_true] at h
        subst h
        simp only [Bool.and_eq_true, beq_iff_eq] at h2
        refine ⟨?_, Nat.zero_le _⟩
        simp [Cl.good, cgoodS, wroteS, h2.1, hv]
      · rw [if_neg h2] at h
        simp only [Prod.mk.injEq, and_true] at h
        subst h
        refine ⟨?_, Nat.le_refl _⟩
        have hlt : t.length ≤ 64 := by omega
        rcases hp with rfl | rfl
        · cases g <;> simp_all [Cl.good, cgoodS, zeroS]
        · cases g <;> simp_all [Cl.good, cgoodS, zeroS, vgood]
  · rw [if_neg ha] at h; simp at h
theorem cof_ok {p n s a b : Int} {g : Bool} {t : List UInt8} {c : Cl} (h : cofS p n s a b g t = (c, 0)) : (p = 1 ∨ p = 2) ∧ sgood n s = true ∧ 0 < n ∧ vgood a b = true ∧ (g = true → t = []) ∧ t.length ≤ 64 ∧
    ((p = 2 ∧ g = true ∧ c = ⟨0, 0, 0, 0, false, [], a, b⟩) ∨ ((p = 2 → g = false) ∧ c = ⟨n, s, a, b, g, t, 0, 0⟩)) := by
  unfold cofS at h
  by_cases ha : argS p n s a b g t = true
  · rw [if_pos ha] at h
    by_cases hl : 64 < t.length
    · rw [if_pos hl] at h; simp at h
    · rw [if_neg hl] at h
      unfold argS at ha
      simp only [Bool.and_eq_true, Bool.or_eq_true, beq_iff_eq, whenS, decide_eq_true_eq] at ha
      obtain ⟨hp, ⟨hs, hn⟩, hv, hg⟩ := ha
      refine ⟨hp, hs, hn, hv, ?_, by omega, ?_⟩
      · intro hgt; subst hgt; simpa using hg
      · by_cases h2 : ((p == 2) && g) = true
        · rw [if_pos h2] at h
          simp only [Prod.mk.injEq, and_true] at h
          simp only [Bool.and_eq_true, beq_iff_eq] at h2
          exact .inl ⟨h2.1, h2.2, h.symm⟩
        · rw [if_neg h2] at h
          simp only [Prod.mk.injEq, and_true] at h
          refine .inr ⟨fun hp2 => ?_, h.symm⟩
          subst hp2
          simpa using h2
  · rw [if_neg ha] at h; simp at h
theorem rowPut_nil (n1 : Nat) (k : List UInt8) (i : Nat) (x : Cl) : rowPut n1 [] k i x = [(k, (zerosC n1).set i x)] := by simp [rowPut]
theorem rowPut_new {n1 : Nat} {R0 : List (List UInt8 × List Cl)} {kl k : List UInt8} {cs : List Cl} {i : Nat} {x : Cl} (h : kl ≠ k) : rowPut n1 (R0 ++ [(kl, cs)]) k i x = (R0 ++ [(kl, cs)]) ++ [(k, (zerosC n1).set i x)] := by
  unfold rowPut
  rw [if_pos]
  right
  simp [List.getD_eq_getElem?_getD]
  exact h
theorem rowPut_old {n1 : Nat} {R0 : List (List UInt8 × List Cl)} {k : List UInt8} {cs : List Cl} {i : Nat} {x : Cl} : rowPut n1 (R0 ++ [(k, cs)]) k i x = R0 ++ [(k, cs.set i x)] := by
  unfold rowPut
  rw [if_neg]
  · simp [List.getD_eq_getElem?_getD]
  · simp [List.getD_eq_getElem?_getD]
theorem hasN_iff {ws : List Wr} {key : List UInt8} {g : Int} : ∀ {k : Nat}, hasN ws key g k = true ↔ ∃ j, j < k ∧ (ws.getD j Wr.zero).k = key ∧ (ws.getD j Wr.zero).i = g
  | 0 => by simp [hasN]
  | k + 1 => by
    show (hasN ws key g k || plEq _ _ _ _) = true ↔ _
    rw [Bool.or_eq_true, hasN_iff]
    unfold plEq
    simp only [Bool.and_eq_true, decide_eq_true_eq, beq_iff_eq]
    constructor
    · rintro (⟨j, hj, h1, h2⟩ | ⟨h1, h2⟩)
      · exact ⟨j, by omega, h1, h2⟩
      · exact ⟨k, by omega, h1, h2⟩
    · rintro ⟨j, hj, h1, h2⟩
      by_cases e : j = k
      · subst e; exact .inr ⟨h1, h2⟩
      · exact .inl ⟨j, by omega, h1, h2⟩
theorem countP_one (f : Nat → Bool) (i : Nat) (hf : f i = false) : ∀ n, (List.range n).countP (fun g => f g || g == i) = (List.range n).countP f + (if i < n then 1 else 0)
  | 0 => rfl
  | n + 1 => by
    rw [List.range_succ, List.countP_append, List.countP_append, countP_one f i hf n]
    simp only [List.countP_cons, List.countP_nil, Nat.zero_add]
    by_cases e : n = i
    · subst e
      simp [hf]
    · have e2 : (n == i) = false := by simpa using e
      rw [e2, Bool.or_false]
      by_cases h1 : i < n
      · rw [if_pos h1, if_pos (show i < n + 1 by omega)]; omega
      · rw [if_neg h1, if_neg (show ¬ i < n + 1 by omega)]
        generalize (if f n = true then 1 else 0) = z
        omega
section
variable {gs : List Grp} {n s a b : Int} {ws : List Wr}
theorem w_lt (hall : ∀ k, k < ws.length → wAt gs.length ws k = true) : ∀ k, k < ws.length → ∀ j, j < k → aheadS (ws.getD j Wr.zero) (ws.getD k Wr.zero) = true
  | 0, _, j, hj => by omega
  | k + 1, hk, j, hj => by
    have h := hall (k + 1) hk
    unfold wAt at h
    simp only [Bool.and_eq_true, Bool.or_eq_true, decide_eq_true_eq] at h
    have h2 : aheadS (ws.getD k Wr.zero) (ws.getD (k + 1) Wr.zero) = true := by
      rcases h.2 with e | e
      · omega
      · exact e
    by_cases e : j = k
    · subst e; exact h2
    · exact ahead_tr (w_lt hall k (by omega) j (by omega)) h2
theorem ahead_le {x y : Wr} (h : aheadS x y = true) : x.k = y.k ∨ Op.bytesLess x.k y.k = true := by
  unfold aheadS at h
  by_cases e : (x.k == y.k) = false
  · rw [if_pos e] at h; exact .inr h
  · exact .inl (by simpa using e)
def cntR (n1 : Nat) (ws : List Wr) (key : List UInt8) (k : Nat) : Nat := (List.range n1).countP (fun g : Nat => hasN ws key (g : Int) k)
def RowInv (gs : List Grp) (n s a b : Int) (ws : List Wr) (k : Nat) (r : List UInt8 × List Cl) : Prop :=
  rgoodS gs r.1 r.2 = 0 ∧ (∀ g : Nat, g < gs.length → hasN ws r.1 (g : Int) k = false → r.2.getD g Cl.zero = Cl.zero) ∧
  ∀ j, j < k → (ws.getD j Wr.zero).k = r.1 → r.2.getD (ws.getD j Wr.zero).i.toNat Cl.zero = (cofS (gs.getD (ws.getD j Wr.zero).i.toNat ([], 0)).2 n s a b (ws.getD j Wr.zero).g (ws.getD j Wr.zero).v).1
structure RInv (gs : List Grp) (n s a b : Int) (ws : List Wr) (k : Nat) (R : List (List UInt8 × List Cl)) : Prop where
  asc : R.Pairwise (fun r r' => Op.bytesLess r.1 r'.1 = true)
  last : (k = 0 ∧ R = []) ∨ ∃ R0 cs, R = R0 ++ [((ws.getD (k - 1) Wr.zero).k, cs)]
  row : ∀ r ∈ R, RowInv gs n s a b ws k r
  cnt : (R.map (fun r => cntR gs.length ws r.1 k)).sum = k
theorem bl_ne {x y : List UInt8} (h : Op.bytesLess x y = true) : x ≠ y := by
  rintro rfl
  rw [show Op.bytesLess x x = false from strictT.irr x] at h
  cases h
theorem hasN_skip {key : List UInt8} {g : Int} {k : Nat} (h : (ws.getD k Wr.zero).k ≠ key) : hasN ws key g (k + 1) = hasN ws key g k := by
  show (hasN ws key g k || plEq _ _ _ _) = _
  have : plEq (ws.getD k Wr.zero).k (ws.getD k Wr.zero).i key g = false := by
    unfold plEq
    rw [decide_eq_false h]
    rfl
  rw [this, Bool.or_false]
theorem cof_mine (hp : pgoodS gs = 0) (hv : whenS n s = true ∧ vgood a b = true) {w : Wr} (hw : mayS gs.length w = true) : ∃ c, cofS (gs.getD w.i.toNat ([], 0)).2 n s a b w.g w.v = (c, 0) := by
  unfold mayS at hw
  simp only [Bool.and_eq_true, Bool.or_eq_true, decide_eq_true_eq, Bool.not_eq_true', beq_iff_eq] at hw
  obtain ⟨h1, h2, h3, h4, h5⟩ := hw
  have hpol := pgood_pol hp w.i.toNat (by omega)
  unfold cofS
  have ha : argS (gs.getD w.i.toNat ([], 0)).2 n s a b w.g w.v = true := by
    unfold argS
    rw [hv.1, hv.2]
    rcases hpol with e | e <;> rw [e] <;> rcases h5 with e5 | e5 <;> simp [e5]
  rw [if_pos ha, if_neg (by omega)]
  split
  · exact ⟨_, rfl⟩
  · exact ⟨_, rfl⟩
theorem rinv_step (hp : pgoodS gs = 0) (hv : whenS n s = true ∧ vgood a b = true) (hall : ∀ k, k < ws.length → wAt gs.length ws k = true) {k : Nat} (hk : k < ws.length) {R0 : List (List UInt8 × List Cl)} {cs : List Cl}
    (h1 : (R0 ++ [((ws.getD k Wr.zero).k, cs)]).Pairwise (fun r r' => Op.bytesLess r.1 r'.1 = true)) (h2 : ∀ r ∈ R0, RowInv gs n s a b ws k r) (h3 : RowInv gs n s a b ws k ((ws.getD k Wr.zero).k, cs))
    (h4 : (R0.map (fun r => cntR gs.length ws r.1 k)).sum + cntR gs.length ws (ws.getD k Wr.zero).k k = k) :
    RInv gs n s a b ws (k + 1) (R0 ++ [((ws.getD k Wr.zero).k, cs.set (ws.getD k Wr.zero).i.toNat (cofS (gs.getD (ws.getD k Wr.zero).i.toNat ([], 0)).2 n s a b (ws.getD k Wr.zero).g (ws.getD k Wr.zero).v).1)]) := by
  have hmay := w_at (hall k hk)
  obtain ⟨c, hc⟩ := cof_mine hp hv hmay
  have hkey := may_key hmay
  have hlt := w_lt hall k hk
  have hi : 0 ≤ (ws.getD k Wr.zero).i ∧ (ws.getD k Wr.zero).i < (gs.length : Int) := by
    unfold mayS at hmay
    simp only [Bool.and_eq_true, decide_eq_true_eq] at hmay
    exact ⟨hmay.2.1, hmay.2.2.1⟩
  obtain ⟨w, hw⟩ : ∃ w, ws.getD k Wr.zero = w := ⟨_, rfl⟩
  rw [hw] at h1 h3 h4 hc hkey hlt hi ⊢
  rw [hc]
  have hno : hasN ws w.k w.i k = false := by
    cases e : hasN ws w.k w.i k with
    | false => rfl
    | true =>
      obtain ⟨j, hj, e1, e2⟩ := hasN_iff.1 e
      have := hlt j hj
      rw [ahead_pl (show (ws.getD j Wr.zero).pl = w.pl by unfold Wr.pl; rw [e1, e2])] at this
      cases this
  have hne : ∀ r ∈ R0, w.k ≠ r.1 := fun r hr e => by
    have := (List.pairwise_append.1 h1).2.2 r hr _ (List.mem_singleton.2 rfl)
    exact bl_ne this e.symm
  obtain ⟨p1, p2, p3⟩ := h3
  simp only at p1 p2 p3
  obtain ⟨-,-, hcl, hcg⟩ := rgood_inv p1
  have hit : ((w.i.toNat : Nat) : Int) = w.i := Int.toNat_of_nonneg hi.1
  have hil : w.i.toNat < gs.length := by omega
  refine ⟨?_, .inr ⟨R0, _, by rw [Nat.add_sub_cancel, hw]⟩, fun r hr => ?_,?_⟩
  · rw [List.pairwise_append] at h1 ⊢
    refine ⟨h1.1, by simp, fun r hr r' hr' => ?_⟩
    rw [List.mem_singleton.1 hr']
    exact h1.2.2 r hr (w.k, cs) (List.mem_singleton.2 rfl)
  · rcases List.mem_append.1 hr with h | h
    · obtain ⟨q1, q2, q3⟩ := h2 r h
      refine ⟨q1, fun g hg hh => q2 g hg ?_, fun j hj he => ?_⟩
      · rw [hasN_skip (by rw [hw]; exact hne r h)] at hh; exact hh
      · by_cases e : j = k
        · subst e; rw [hw] at he; exact absurd he (hne r h)
        · exact q3 j (by omega) he
    · rw [List.mem_singleton.1 h]
      refine ⟨rgood_yes hp hkey (by rw [List.length_set]; exact hcl) fun j hj => ?_, fun g hg hh => ?_, fun j hj he => ?_⟩
      · unfold cgAt
        rw [set_getD]
        split
        · rename_i e; rw [← e.1]; exact (cof_good hc).1
        · exact hcg j hj
      · have hs : hasN ws w.k (g : Int) (k + 1) = (hasN ws w.k (g : Int) k || plEq w.k w.i w.k (g : Int)) := by rw [← hw]; rfl
        simp only at hh
        rw [hs, Bool.or_eq_false_iff] at hh
        have hgi : w.i.toNat ≠ g := fun e => by
          have h9 := hh.2
          unfold plEq at h9
          rw [← e, hit] at h9
          simp at h9
        simp only
        rw [set_getD, if_neg (fun e => hgi e.1)]
        exact p2 g hg hh.1
      · simp only at he ⊢
        by_cases e : j = k
        · subst e
          rw [hw, set_getD, if_pos ⟨rfl, by omega⟩, hc]
        · have hj2 : j < k := by omega
          have hmj := w_at (hall j (by omega))
          have hji : 0 ≤ (ws.getD j Wr.zero).i := by
            unfold mayS at hmj
            simp only [Bool.and_eq_true, decide_eq_true_eq] at hmj
            exact hmj.2.1
          have hd : w.i.toNat ≠ (ws.getD j Wr.zero).i.toNat := fun e9 => by
            have := hlt j hj2
            rw [ahead_pl (show (ws.getD j Wr.zero).pl = w.pl by unfold Wr.pl; rw [he]; congr 1; omega)] at this
            cases this
          rw [set_getD, if_neg (fun e => hd e.1)]
          exact p3 j hj2 he
  · rw [List.map_append, List.sum_append]
    have e1 : R0.map (fun r => cntR gs.length ws r.1 (k + 1)) = R0.map (fun r => cntR gs.length ws r.1 k) := by
      apply List.map_congr_left
      intro r hr
      unfold cntR
      congr 1
      funext g
      exact hasN_skip (by rw [hw]; exact hne r hr)
    have e2 : cntR gs.length ws w.k (k + 1) = cntR gs.length ws w.k k + 1 := by
      unfold cntR
      have hf : (fun g : Nat => hasN ws w.k (g : Int) (k + 1)) = (fun g : Nat => hasN ws w.k (g : Int) k || g == w.i.toNat) := by
        funext g
        have hs : hasN ws w.k (g : Int) (k + 1) = (hasN ws w.k (g : Int) k || plEq w.k w.i w.k (g : Int)) := by rw [← hw]; rfl
        rw [hs]
        congr 1
        unfold plEq
        rw [Bool.eq_iff_iff]
        simp
        omega
      rw [hf, countP_one (fun g : Nat => hasN ws w.k (g : Int) k) w.i.toNat (by show hasN ws w.k ((w.i.toNat : Nat) : Int) k = false; rw [hit]; exact hno), if_pos hil]
    rw [e1]
    simp only [List.map_cons, List.map_nil, List.sum_cons, List.sum_nil]
    rw [e2]
    omega
theorem rinv (hp : pgoodS gs = 0) (hv : whenS n s = true ∧ vgood a b = true) (hall : ∀ k, k < ws.length → wAt gs.length ws k = true) : ∀ k, k ≤ ws.length → RInv gs n s a b ws k (wrowN gs n s a b ws k)
  | 0, _ => ⟨List.Pairwise.nil, .inl ⟨rfl, rfl⟩, fun r hr => (by cases hr), rfl⟩
  | k + 1, hk => by
    have ih := rinv hp hv hall k (by omega)
    have hmay := w_at (hall k (by omega))
    have hz : ∀ key : List UInt8, keyS key = 0 → (∀ j, j < k → (ws.getD j Wr.zero).k ≠ key) → RowInv gs n s a b ws k (key, zerosC gs.length) ∧ cntR gs.length ws key k = 0 := fun key h0 hn => by
      have hf : ∀ g : Int, hasN ws key g k = false := fun g => by
        cases e : hasN ws key g k with
        | false => rfl
        | true => obtain ⟨j, hj, e1, -⟩ := hasN_iff.1 e; exact absurd e1 (hn j hj)
      refine ⟨⟨rgood_yes hp h0 (by simp [zerosC]) fun j hj => ?_, fun g hg _ => by simp [zerosC, hg], fun j hj he => absurd he (hn j hj)⟩, ?_⟩
      · unfold cgAt
        rw [show (zerosC gs.length).getD j Cl.zero = Cl.zero by simp [zerosC, hj]]
        exact cg_zero (pgood_pol hp j hj)
      · unfold cntR
        rw [List.countP_eq_zero]
        intro g _
        simp [hf]
    show RInv gs n s a b ws (k + 1) (rowPut gs.length (wrowN gs n s a b ws k) _ _ _)
    rcases ih.last with ⟨rfl, hR⟩ | ⟨R0, cs, hR⟩
    · rw [hR, rowPut_nil]
      obtain ⟨z1, z2⟩ := hz (ws.getD 0 Wr.zero).k (may_key hmay) (fun j hj => by omega)
      exact rinv_step hp hv hall (by omega) (R0 := []) (by simp) (fun r hr => by cases hr) z1 (by rw [z2]; rfl)
    · have hk0 : 0 < k := by
        rcases Nat.eq_zero_or_pos k with e | e
        · subst e
          have : wrowN gs n s a b ws 0 = [] := rfl
          rw [this] at hR
          simp at hR
        · exact e
      have hasc := ih.asc
      have hrow := ih.row
      have hcnt := ih.cnt
      rw [hR] at hasc hrow hcnt ⊢
      by_cases e : (ws.getD (k - 1) Wr.zero).k = (ws.getD k Wr.zero).k
      · rw [e] at hasc hrow hcnt ⊢
        rw [rowPut_old]
        refine rinv_step hp hv hall (by omega) hasc (fun r hr => hrow r (List.mem_append_left _ hr)) (hrow _ (List.mem_append_right _ (List.mem_singleton.2 rfl))) ?_
        rw [List.map_append, List.sum_append] at hcnt
        simpa using hcnt
      · rw [rowPut_new e]
        have hle : ∀ j, j < k → (ws.getD j Wr.zero).k = (ws.getD (k - 1) Wr.zero).k ∨ Op.bytesLess (ws.getD j Wr.zero).k (ws.getD (k - 1) Wr.zero).k = true := fun j hj => by
          by_cases ej : j = k - 1
          · subst ej; exact .inl rfl
          · exact ahead_le (w_lt hall (k - 1) (by omega) j (by omega))
        have hl : Op.bytesLess (ws.getD (k - 1) Wr.zero).k (ws.getD k Wr.zero).k = true := by
          rcases ahead_le (w_lt hall k (by omega) (k - 1) (by omega)) with h | h
          · exact absurd h e
          · exact h
        have hn : ∀ j, j < k → (ws.getD j Wr.zero).k ≠ (ws.getD k Wr.zero).k := fun j hj => by
          rcases hle j hj with h | h
          · rw [h]; exact e
          · exact bl_ne (strictT.tr _ _ _ h hl)
        obtain ⟨z1, z2⟩ := hz (ws.getD k Wr.zero).k (may_key hmay) hn
        refine rinv_step hp hv hall (by omega) ?_ hrow z1 (by rw [z2]; exact hcnt)
        rw [List.pairwise_append]
        refine ⟨hasc, by simp, fun r hr r' hr' => ?_⟩
        rw [List.mem_singleton.1 hr']
        rcases List.mem_append.1 hr with h | h
        · exact strictT.tr _ _ _ ((List.pairwise_append.1 hasc).2.2 r h _ (List.mem_singleton.2 rfl)) hl
        · rw [List.mem_singleton.1 h]; exact hl
end
end Go.Proofs.Ytidbjmkfmfojdaa
end

section
namespace Go.Proofs.Ytidbjmkfmfojdaa
open Go.RowKit Go Go.Sort
set_option linter.unusedVariables false
set_option maxRecDepth 20000

def opC (u v : List Cl) : List Cl := zipN u v u.length
/-- What is asked of the row at a place. -/
def mAt (gs : List Grp) (R : List Rp) (i : Nat) : Int :=
  if ¬ rgoodS gs (R.getD i ([], [])).1 (R.getD i ([], [])).2 = 0 then rgoodS gs (R.getD i ([], [])).1 (R.getD i ([], [])).2
  else if (bareS (R.getD i ([], [])).2 || (decide (0 < i) && !Op.bytesLess (R.getD (i - 1) ([], [])).1 (R.getD i ([], [])).1)) = true then 100 else 0
def mgoodS (gs : List Grp) (R : List Rp) : Int :=
  if ¬ pgoodS gs = 0 then pgoodS gs else (((List.range R.length).map (mAt gs R)).find? (fun e => decide (e ≠ 0))).getD 0
theorem m_pol {gs : List Grp} {R : List Rp} (h : ¬ pgoodS gs = 0) : mgoodS gs R = pgoodS gs := by unfold mgoodS; rw [if_pos h]
theorem m_yes {gs : List Grp} {R : List Rp} (h : pgoodS gs = 0) (ha : ∀ k, k < R.length → mAt gs R k = 0) : mgoodS gs R = 0 := by
  unfold mgoodS
  rw [if_neg (not_not_intro h), List.find?_eq_none.2]
  · rfl
  · intro e he
    obtain ⟨k, hk, rfl⟩ := List.mem_map.1 he
    rw [ha k (List.mem_range.1 hk)]
    decide
theorem m_bad {gs : List Grp} {R : List Rp} {k : Nat} (h : pgoodS gs = 0) (ha : ∀ j, j < k → mAt gs R j = 0) (hk : k < R.length) (hb : ¬ mAt gs R k = 0) : mgoodS gs R = mAt gs R k := by
  unfold mgoodS
  rw [if_neg (not_not_intro h)]
  have e : (List.range R.length).map (mAt gs R) = (List.range k).map (mAt gs R) ++ mAt gs R k :: ((List.range (R.length - k - 1)).map (fun i => mAt gs R (k + 1 + i))) := by
    apply List.ext_getElem
    · simp; omega
    · intro i h1 h2
      simp only [List.getElem_map, List.getElem_range]
      by_cases hi : i < k
      · rw [List.getElem_append_left (by simpa using hi)]; simp
      · rw [List.getElem_append_right (by simpa using hi)]
        by_cases he : i = k
        · subst he; simp
        · obtain ⟨j, rfl⟩ : ∃ j, i = k + 1 + j := ⟨i - k - 1, by omega⟩
          simp only [List.length_map, List.length_range, show k + 1 + j - k = j + 1 by omega, List.getElem_cons_succ, List.getElem_map, List.getElem_range]
  rw [e, List.find?_append, List.find?_eq_none.2]
  · simp only [Option.none_or]
    rw [List.find?_cons_of_pos (by simpa using hb)]
    rfl
  · intro x hx
    obtain ⟨j, hj, rfl⟩ := List.mem_map.1 hx
    rw [ha j (List.mem_range.1 hj)]
    decide
theorem mAt_zero {gs : List Grp} {R : List Rp} {i : Nat} : mAt gs R i = 0 ↔ rgoodS gs (R.getD i ([], [])).1 (R.getD i ([], [])).2 = 0 ∧ bareS (R.getD i ([], [])).2 = false ∧ (0 < i → Op.bytesLess (R.getD (i - 1) ([], [])).1 (R.getD i ([], [])).1 = true) := by
  unfold mAt
  by_cases h : rgoodS gs (R.getD i ([], [])).1 (R.getD i ([], [])).2 = 0
  · rw [if_neg (not_not_intro h)]
    generalize R.getD i ([], []) = z at *
    generalize R.getD (i - 1) ([], []) = z' at *
    generalize bareS z.2 = x
    generalize Op.bytesLess z'.1 z.1 = y
    by_cases hi : 0 < i
    · cases x <;> cases y <;> simp [h, hi]
    · cases x <;> cases y <;> simp [h, hi]
  · rw [if_pos h]
    exact ⟨fun e => absurd e h, fun e => absurd e.1 h⟩
/-- What a state is. -/
structure IsSt (gs : List Grp) (R : List Rp) : Prop where
  pol : pgoodS gs = 0
  asc : KAsc Op.bytesLess R
  good : ∀ r ∈ R, rgoodS gs r.1 r.2 = 0
  bare : ∀ r ∈ R, bareS r.2 = false
theorem join_zero {p : Int} {a b : Cl} (ha : a.good p = true) (hb : b.good p = true) (h : joinC [a, b] = Cl.zero) : a = Cl.zero := by
  obtain ⟨-,-,-,-,-,-, h1, -, h2⟩ := lattice ha hb ha
  rw [h] at h1
  have e1 := (within_iff (good_up ha)).1 h1
  have e2 := (same_iff _ _).1 h2
  have e3 : joinC [Cl.zero, a] = twoS Cl.zero a := by
    show twoS (twoS Cl.zero Cl.zero) a = _
    rw [show twoS Cl.zero Cl.zero = Cl.zero from rfl]
  rw [e3, two_comm, e1] at e2
  exact e2.symm
theorem zip_bare {gs : List Grp} {k : List UInt8} {u v : List Cl} (hu : rgoodS gs k u = 0) (hv : rgoodS gs k v = 0) (h : bareS u = false) : bareS (opC u v) = false := by
  rw [Bool.eq_false_iff] at h ⊢
  intro hz
  apply h
  unfold bareS at hz ⊢
  rw [List.all_eq_true] at hz ⊢
  intro c hc
  obtain ⟨i, hi, rfl⟩ := List.getElem_of_mem hc
  have h3 := (rgood_inv hu).2.2.1
  have h5 := (rgood_inv hv).2.2.1
  have hl : (opC u v).length = u.length := zipN_len u v u.length
  have e := hz ((opC u v)[i]'(by omega)) (List.getElem_mem _)
  have e2 : (opC u v)[i]'(by omega) = joinC [u.getD i Cl.zero, v.getD i Cl.zero] := by
    have := zip_at u v hi
    rw [List.getD_eq_getElem?_getD, List.getElem?_eq_getElem (by rw [zipN_len]; exact hi)] at this
    exact this
  rw [e2, same_iff] at e
  have := join_zero (good_at hu hi) (good_at hv (show i < v.length by omega)) e
  rw [same_iff]
  rw [List.getD_eq_getElem?_getD, List.getElem?_eq_getElem hi] at this
  exact this
/-- Two states put together are one. -/
theorem mrg_st {gs : List Grp} {a b : List Rp} (ha : IsSt gs a) (hb : IsSt gs b) : IsSt gs (mrg Op.bytesLess opC a b) := by
  have hl := fun k => mrg_look strictT opC k _ a b (Nat.le_refl _) ha.asc hb.asc
  have hs := mrg_asc strictT opC _ a b (Nat.le_refl _) ha.asc hb.asc
  have key : ∀ r ∈ mrg Op.bytesLess opC a b, rgoodS gs r.1 r.2 = 0 ∧ bareS r.2 = false := by
    intro r hr
    have h1 := mem_look strictT (k := r.1) (c := r.2) hs hr
    rw [hl] at h1
    cases h2 : look a r.1 with
    | none =>
      cases h3 : look b r.1 with
      | none => rw [h2, h3] at h1; cases h1
      | some v =>
        rw [h2, h3] at h1
        cases h1
        have := look_mem h3
        exact ⟨hb.good _ this, hb.bare _ this⟩
    | some u =>
      have m1 := look_mem h2
      cases h3 : look b r.1 with
      | none =>
        rw [h2, h3] at h1
        cases h1
        exact ⟨ha.good _ m1, ha.bare _ m1⟩
      | some v =>
        rw [h2, h3] at h1
        have m2 := look_mem h3
        have g1 := ha.good _ m1
        have g2 := hb.good _ m2
        have e : opC u v = r.2 := Option.some.inj (show some (opC u v) = some r.2 from h1)
        rw [← e]
        exact ⟨zip_good g1 g2, zip_bare g1 g2 (ha.bare _ m1)⟩
  exact ⟨ha.pol, hs, fun r hr => (key r hr).1, fun r hr => (key r hr).2⟩
theorem made_st {gs : List Grp} (hp : pgoodS gs = 0) : ∀ (n : Nat) (cs : List (List Rp)), cs.length ≤ n → (∀ S ∈ cs, IsSt gs S) → IsSt gs (madeK Op.bytesLess opC cs)
  | n, [], _, _ => by rw [made_nil]; exact ⟨hp, List.Pairwise.nil, fun r hr => (by cases hr), fun r hr => (by cases hr)⟩
  | n, [S], _, h => by rw [made_one]; exact h S (List.mem_cons_self ..)
  | 0, S :: T :: cs, hn, _ => by simp at hn
  | n + 1, S :: T :: cs, hn, h => by
    have h2 : 2 ≤ (S :: T :: cs).length := by simp
    generalize (S :: T :: cs) = ds at *
    rw [made_two opC h2]
    refine mrg_st (made_st hp n _ ?_ fun X hX => h X (List.mem_of_mem_take hX)) (made_st hp n _ ?_ fun X hX => h X (List.mem_of_mem_drop hX))
    · rw [List.length_take]; omega
    · rw [List.length_drop]; omega
end Go.Proofs.Ytidbjmkfmfojdaa
end

section
namespace Go.Proofs.Ytidbjmkfmfojdaa
open Go.RowKit Go Go.Sort
set_option linter.unusedVariables false
set_option maxRecDepth 20000

theorem wrow_keys (gs : List Grp) (n s a b : Int) (ws : List Wr) : ∀ k, ∀ r ∈ wrowN gs n s a b ws k, ∃ j, j < k ∧ (ws.getD j Wr.zero).k = r.1
  | 0, r, hr => by cases hr
  | k + 1, r, hr => by
    have hp : r ∈ rowPut gs.length (wrowN gs n s a b ws k) (ws.getD k Wr.zero).k (ws.getD k Wr.zero).i.toNat (cofS (gs.getD (ws.getD k Wr.zero).i.toNat ([], 0)).2 n s a b (ws.getD k Wr.zero).g (ws.getD k Wr.zero).v).1 := hr
    have ih := wrow_keys gs n s a b ws k
    generalize (cofS (gs.getD (ws.getD k Wr.zero).i.toNat ([], 0)).2 n s a b (ws.getD k Wr.zero).g (ws.getD k Wr.zero).v).1 = x at hp
    unfold rowPut at hp
    split at hp
    · rcases List.mem_append.1 hp with h | h
      · obtain ⟨j, hj, e⟩ := ih r h; exact ⟨j, by omega, e⟩
      · rw [List.mem_singleton] at h; subst h; exact ⟨k, by omega, rfl⟩
    · rename_i hc
      obtain ⟨i, hi, e⟩ := List.getElem_of_mem hp
      rw [List.getElem_set] at e
      split at e
      · subst e; exact ⟨k, by omega, rfl⟩
      · subst e
        obtain ⟨j, hj, e2⟩ := ih _ (List.getElem_mem (by simpa using hi))
        exact ⟨j, by omega, e2⟩
theorem chrows_st {gs : List Grp} {site seq n s a b : Int} {ws : List Wr} (h : chgoodS gs site seq n s a b ws = 0) : IsSt gs (wrowN gs n s a b ws ws.length) := by
  obtain ⟨hp, hh, hall⟩ := ch_inv h
  obtain ⟨h1, h2, h3, h4, h5, h6, h7, -,-⟩ := head_ok hh
  have hn : 0 < n := by
    unfold sgood at h4
    simp only [decide_eq_true_eq] at h4
    rcases h4 with ⟨-, e⟩ | ⟨e, -⟩
    · rcases h1 with e1 | e1 <;> omega
    · omega
  have hw : whenS n s = true ∧ vgood a b = true := by
    refine ⟨?_, h6⟩
    unfold sgood at h4
    unfold whenS sgood
    simp only [decide_eq_true_eq] at h4
    simp [hn]
    omega
  have hR := rinv hp hw hall ws.length (Nat.le_refl _)
  refine ⟨hp, hR.asc, fun r hr => (hR.row r hr).1, fun r hr => ?_⟩
  obtain ⟨q1, q2, q3⟩ := hR.row r hr
  obtain ⟨-,-, k2, -⟩ := rgood_inv q1
  obtain ⟨j, hj, e1⟩ := wrow_keys gs n s a b ws _ r hr
  have h9 := q3 j hj e1
  have hm := w_at (hall j hj)
  obtain ⟨c, hc⟩ := cof_mine (n := n) (s := s) (a := a) (b := b) hp hw hm
  rw [hc] at h9
  simp only at h9
  have hi : (ws.getD j Wr.zero).i.toNat < r.2.length := by
    unfold mayS at hm
    simp only [Bool.and_eq_true, Bool.or_eq_true, decide_eq_true_eq, Bool.not_eq_true', beq_iff_eq] at hm
    omega
  refine bare_not hi ?_
  rw [Bool.eq_false_iff]
  intro e
  rw [same_iff, h9] at e
  obtain ⟨-,-,-,-,-,-, hcc⟩ := cof_ok hc
  rcases hcc with ⟨-,-, hcc⟩ | ⟨-, hcc⟩
  · rw [hcc] at e
    injection e with e1 e2 e3 e4 e5 e6 e7 e8
    split at h7 <;> omega
  · rw [hcc] at e
    injection e with e1
    omega
/-- The rows of a change, and its error. -/
theorem chrows_ok {gs : List Grp} {site seq n s a b : Int} {ws : List Wr} (h : chgoodS gs site seq n s a b ws = 0) : chrowsS gs site seq n s a b ws = (wrowN gs n s a b ws ws.length, 0) := by unfold chrowsS; rw [if_pos h]
theorem chrows_no {gs : List Grp} {site seq n s a b : Int} {ws : List Wr} (h : ¬ chgoodS gs site seq n s a b ws = 0) : chrowsS gs site seq n s a b ws = ([], chgoodS gs site seq n s a b ws) := by unfold chrowsS; rw [if_neg h]
theorem chgood_err {gs : List Grp} {site seq n s a b : Int} {ws : List Wr} (hp : pgoodS gs = 0) (h : ¬ chgoodS gs site seq n s a b ws = 0) : chgoodS gs site seq n s a b ws = 120 := by
  unfold chgoodS at h ⊢
  rw [if_neg (not_not_intro hp)] at h ⊢
  split
  · rfl
  · rename_i h2
    rw [if_neg h2] at h
    split
    · rename_i h3; rw [if_pos h3] at h; exact absurd rfl h
    · rfl
/-- A change: its parts, with the writes. -/
structure Chg where
  site : Int
  seq : Int
  n : Int
  s : Int
  a : Int
  b : Int
  ws : List Wr
def Chg.err (gs : List Grp) (c : Chg) : Int := chgoodS gs c.site c.seq c.n c.s c.a c.b c.ws
def Chg.rows (gs : List Grp) (c : Chg) : List Rp := wrowN gs c.n c.s c.a c.b c.ws c.ws.length
theorem Chg.st {gs : List Grp} {c : Chg} (h : c.err gs = 0) : IsSt gs (c.rows gs) := chrows_st h
/-- What changes make, and an error. -/
def stS (gs : List Grp) (cs : List Chg) : List Rp × Int :=
  if ¬ pgoodS gs = 0 then ([], pgoodS gs) else if cs.all (fun c => decide (c.err gs = 0)) = true then (madeK Op.bytesLess opC (cs.map (Chg.rows gs)), 0) else ([], 120)
theorem st_pol {gs : List Grp} {cs : List Chg} (h : ¬ pgoodS gs = 0) : stS gs cs = ([], pgoodS gs) := by unfold stS; rw [if_pos h]
theorem st_ok {gs : List Grp} {cs : List Chg} (h : pgoodS gs = 0) (ha : ∀ c ∈ cs, c.err gs = 0) : stS gs cs = (madeK Op.bytesLess opC (cs.map (Chg.rows gs)), 0) := by
  unfold stS
  rw [if_neg (not_not_intro h), if_pos (List.all_eq_true.2 fun c hc => by simpa using ha c hc)]
theorem st_bad {gs : List Grp} {cs : List Chg} (h : pgoodS gs = 0) {c : Chg} (hc : c ∈ cs) (hb : ¬ c.err gs = 0) : stS gs cs = ([], 120) := by
  unfold stS
  rw [if_neg (not_not_intro h), if_neg]
  intro ha
  have := List.all_eq_true.1 ha c hc
  exact hb (by simpa using this)
theorem st_inv {gs : List Grp} {cs : List Chg} (h : (stS gs cs).2 = 0) : pgoodS gs = 0 ∧ ∀ c ∈ cs, c.err gs = 0 := by
  unfold stS at h
  split at h
  · rename_i hp; exact absurd h hp
  · rename_i hp
    refine ⟨by omega, fun c hc => ?_⟩
    split at h
    · rename_i ha
      simpa using List.all_eq_true.1 ha c hc
    · cases h
theorem st_st {gs : List Grp} {cs : List Chg} (h : (stS gs cs).2 = 0) : IsSt gs (stS gs cs).1 := by
  obtain ⟨hp, ha⟩ := st_inv h
  rw [st_ok hp ha]
  exact made_st hp _ _ (Nat.le_refl _) fun S hS => by
    obtain ⟨c, hc, rfl⟩ := List.mem_map.1 hS
    exact Chg.st (ha c hc)
end Go.Proofs.Ytidbjmkfmfojdaa
end

section
namespace Go.Proofs.Ytidbjmkfmfojdaa
open Go.RowKit Go Go.Sort
set_option linter.unusedVariables false
set_option maxRecDepth 20000

/-- A block of a call's own behind a pointer, with its cells. -/
def HeldB (B0 : Nat) (ty : TypeId) (w : World) (v : Value) (cs : Array Value) : Prop := ∃ g, v = .pointer (some ⟨g, 0, none⟩) ∧ B0 ≤ g ∧ w.heap[g]? = some (.cells cs ty (0, 0))
theorem HeldB.kept {B0 : Nat} {ty : TypeId} {w w' : World} {v : Value} {cs : Array Value} (h : HeldB B0 ty w v cs) (hb : Below w.heap.size w w') : HeldB B0 ty w' v cs := by
  obtain ⟨g, h1, h2, h3⟩ := h
  exact ⟨g, h1, h2, heap_below h3 hb⟩
theorem HeldB.other {B0 q : Nat} {ty t : TypeId} {w w' : World} {v : Value} {cs ds : Array Value} (h : HeldB B0 ty w v cs) (hw : Wrote q ds t w w') (hne : v ≠ .pointer (some ⟨q, 0, none⟩)) : HeldB B0 ty w' v cs := by
  obtain ⟨g, rfl, h2, h3⟩ := h
  exact ⟨g, rfl, h2, (hw.rest g (Array.getElem?_eq_some_iff.1 h3).1 (by rintro rfl; exact hne rfl)).trans h3⟩
theorem HeldB.ne {B0 : Nat} {ty : TypeId} {w : World} {v : Value} {cs : Array Value} (h : HeldB B0 ty w v cs) : v ≠ .pointer (some ⟨w.heap.size, 0, none⟩) := by
  obtain ⟨g, rfl, _, h3⟩ := h
  have := (Array.getElem?_eq_some_iff.1 h3).1
  intro e
  simp at e
  try omega
/-- Where the laying of n boxes stands: m operations (and those behind) that tell V, n that make boxes, n that fill them with R. -/
def LayN (m n : Nat) (ty : TypeId) (z : Array Value) (V : Nat → Value) (R : Nat → Array Value) (w0 : World) (L : Nat → Bool) (xs : Nat → Value) (w : World) : Prop :=
  Below w0.heap.size w0 w ∧ (∀ i, (i < m ∨ m + n + n ≤ i) → L i = true → xs i = V i) ∧
  (∀ j, j < n → L (m + j) = true → HeldB w0.heap.size ty w (xs (m + j)) (if L (m + n + j) = true then R j else z)) ∧
  (∀ j k, j < n → k < n → j ≠ k → L (m + j) = true → L (m + k) = true → xs (m + j) ≠ xs (m + k)) ∧
  (∀ j, j < n → L (m + n + j) = true → L (m + j) = true)
section
variable {m n : Nat} {ty : TypeId} {z : Array Value} {V : Nat → Value} {R : Nat → Array Value} {w0 w : World} {L : Nat → Bool} {xs : Nat → Value}
theorem LayN.start (N : Nat) (hN : m + n + n ≤ N) (h : ∀ i, i < N → L i = false) (hz : ∀ i, N ≤ i → xs i = V i) : LayN m n ty z V R w0 L xs { w0 with drawn := w0.drawn + 1 } := by
  have f : ∀ i, i < m + n + n → L i = true → False := fun i hi ht => by rw [h i (by omega)] at ht; cases ht
  refine ⟨⟨rfl, rfl, rfl, Nat.le_refl _, fun _ _ => rfl⟩, fun i hi ht => ?_, fun j hj ht => (f _ (by omega) ht).elim, fun j k hj hk _ ht _ => (f _ (by omega) ht).elim, fun j hj ht => (f _ (by omega) ht).elim⟩
  by_cases hiN : i < N
  · rw [h i hiN] at ht; cases ht
  · exact hz i (by omega)
theorem LayN.below (h : LayN m n ty z V R w0 L xs w) : Below w0.heap.size w0 w := h.1
theorem LayN.set (h : LayN m n ty z V R w0 L xs w) (i : Nat) (hi : i < m ∨ m + n + n ≤ i) {w' : World} (hb : Below w.heap.size w w') : LayN m n ty z V R w0 (fun j => if j = i then true else L j) (fun j => if j = i then V i else xs j) w' := by
  obtain ⟨h0, h1, h2, h3, h4⟩ := h
  refine ⟨h0.trans (hb.mono h0.size), fun j hj ht => ?_, fun j hj ht => ?_, fun j k hj hk => ?_, fun j hj => ?_⟩
  · by_cases e : j = i
    · subst e; simp
    · simp only [if_neg e] at ht ⊢
      exact h1 j hj ht
  · simp only [if_neg (show ¬ m + j = i by omega), if_neg (show ¬ m + n + j = i by omega)] at ht ⊢
    exact (h2 j hj ht).kept hb
  · simp only [if_neg (show ¬ m + j = i by omega), if_neg (show ¬ m + k = i by omega)]
    exact h3 j k hj hk
  · simp only [if_neg (show ¬ m + j = i by omega), if_neg (show ¬ m + n + j = i by omega)]
    exact h4 j hj
theorem LayN.alloc (h : LayN m n ty z V R w0 L xs w) (j : Nat) (hj : j < n) {k : Nat} (hk : k = m + j) (hn : L k = false) : LayN m n ty z V R w0 (fun i => if i = k then true else L i) (fun i => if i = k then .pointer (some ⟨w.heap.size, 0, none⟩) else xs i) (w.alloc (.cells z ty)) := by
  subst hk
  obtain ⟨h0, h1, h2, h3, h4⟩ := h
  have kb := alloc_below w (.cells z ty)
  have hf : L (m + n + j) = false := by
    cases hx : L (m + n + j) with
    | false => rfl
    | true => rw [h4 j hj hx] at hn; cases hn
  refine ⟨h0.trans (kb.mono h0.size), fun i hi ht => ?_, fun i hi ht => ?_, fun i k hi hk hne hti htk => ?_, fun i hi ht => ?_⟩
  · simp only [if_neg (show ¬ i = m + j by omega)] at ht ⊢
    exact h1 i hi ht
  · by_cases e : i = j
    · subst e
      simp only [if_neg (show ¬ m + n + i = m + i by omega), hf, if_pos]
      exact ⟨_, rfl, h0.size, heap_alloc_new w _⟩
    · simp only [if_neg (show ¬ m + i = m + j by omega), if_neg (show ¬ m + n + i = m + j by omega)] at ht ⊢
      exact (h2 i hi ht).kept kb
  · by_cases e1 : i = j
    · subst e1
      simp only [if_neg (show ¬ m + k = m + i by omega), if_pos] at htk ⊢
      exact ((h2 k hk htk).ne).symm
    · by_cases e2 : k = j
      · subst e2
        simp only [if_neg (show ¬ m + i = m + k by omega), if_pos] at hti ⊢
        exact (h2 i hi hti).ne
      · simp only [if_neg (show ¬ m + i = m + j by omega), if_neg (show ¬ m + k = m + j by omega)] at hti htk ⊢
        exact h3 i k hi hk hne hti htk
  · by_cases e : i = j
    · subst e; simp
    · simp only [if_neg (show ¬ m + i = m + j by omega), if_neg (show ¬ m + n + i = m + j by omega)] at ht ⊢
      exact h4 i hi ht
theorem LayN.store (h : LayN m n ty z V R w0 L xs w) (j : Nat) (hj : j < n) {k s : Nat} (hk : k = m + j) (hs : s = m + n + j) (hL : L k = true) {g : Nat} (hg : xs k = .pointer (some ⟨g, 0, none⟩)) (hB : w0.heap.size ≤ g) {w2 : World} (hw : Wrote g (R j) ty w w2) (hl : g ≤ w.heap.size) (v : Value) :
    LayN m n ty z V R w0 (fun i => if i = s then true else L i) (fun i => if i = s then v else xs i) w2 := by
  subst hk hs
  obtain ⟨h0, h1, h2, h3, h4⟩ := h
  refine ⟨h0.trans (hw.below hB hl), fun i hi ht => ?_, fun i hi ht => ?_, fun i k hi hk hne hti htk => ?_, fun i hi ht => ?_⟩
  · simp only [if_neg (show ¬ i = m + n + j by omega)] at ht ⊢
    exact h1 i hi ht
  · simp only [if_neg (show ¬ m + i = m + n + j by omega)] at ht ⊢
    by_cases e : i = j
    · subst e
      simp only [if_pos]
      exact ⟨g, hg, hB, hw.cell⟩
    · simp only [if_neg (show ¬ m + n + i = m + n + j by omega)]
      exact (h2 i hi ht).other hw (hg ▸ h3 i j hi hj e ht hL)
  · simp only [if_neg (show ¬ m + i = m + n + j by omega), if_neg (show ¬ m + k = m + n + j by omega)] at hti htk ⊢
    exact h3 i k hi hk hne hti htk
  · by_cases e : i = j
    · subst e
      simp only [if_neg (show ¬ m + i = m + n + i by omega)]
      exact hL
    · simp only [if_neg (show ¬ m + i = m + n + j by omega), if_neg (show ¬ m + n + i = m + n + j by omega)] at ht ⊢
      exact h4 i hi ht
end
/-- A row in a block, with its cells. -/
def RowBox (W : World) (g : Nat) (tk : ByteArray) (a : Option Addr) (m c : Nat) (cs : List Cl) : Prop := W.heap[g]? = some (.cells #[.string tk, .slice a m c] 30 (0, 0)) ∧ Cls W a m c cs
theorem RowBox.kept {W W' : World} {g : Nat} {tk : ByteArray} {a : Option Addr} {m c : Nat} {cs : List Cl} (h : RowBox W g tk a m c cs) (hb : Below W.heap.size W W') : RowBox W' g tk a m c cs := ⟨heap_below h.1 hb, h.2.below hb⟩
theorem RowBox.cls {W : World} {g : Nat} {tk : ByteArray} {a : Option Addr} {m c : Nat} {cs : List Cl} (h : RowBox W g tk a m c cs) : Cls W a m c cs := h.2
theorem RowBox.cs {W : World} {g : Nat} {tk : ByteArray} {a : Option Addr} {m c : Nat} {cs : List Cl} (h : RowBox W g tk a m c cs) : W.cell? ⟨g, 0, none⟩ = some (.string tk) ∧ W.cell? ⟨g, 1, none⟩ = some (.slice a m c) ∧ ∀ i, W.frozen? ⟨g, i, none⟩ = false := row_cells h.1
theorem Wrote.row {W : World} {g : Nat} {k0 : ByteArray} {v0 : Value} (h : W.heap[g]? = some (.cells #[.string k0, v0] 30 (0, 0))) (k : ByteArray) (v : Value) :
    Wrote g #[.string k, v] 30 W ((W.setCell ⟨g, 0, none⟩ (.string k)).setCell ⟨g, 1, none⟩ v) := by
  have h1 := Wrote.of_set (Below.refl _ W) h 0 (.string k)
  have h2 := Wrote.of_set (Below.refl _ _) h1.cell 1 v
  exact (h1.trans h2 : Wrote g _ _ _ _)
end Go.Proofs.Ytidbjmkfmfojdaa
end

section
namespace Go.Proofs.Ytidbjmkfmfojdaa
open Go.RowKit Go Go.Sort
set_option linter.unusedVariables false
set_option maxRecDepth 20000

theorem run_append_zero {P : Program} (w : World) (t tx ty e : TypeId) (i : TypeInfo) (ht : P.underlying t = some (.slice e)) (hi : P.info? e = some i) (x : Value) (hs : Src P i.size tx x 0 [] w) :
    (Builtin.append_ #[t, tx] ty #[.slice none 0 0, x]).run P w = .ok (.slice none 0 0) w := by
  rcases hs.kind with ⟨e', hk⟩ | hk <;> simp [Builtin.append_, run_underlying ht, run_underlying hk, sizeOf, typeInfo, hi, hs.len, hs.cells]
end Go.Proofs.Ytidbjmkfmfojdaa
end

section
namespace Go.Proofs.Ytidbjmkfmfojdaa
open Go.RowKit Go Go.Sort
set_option linter.unusedVariables false
set_option maxRecDepth 20000

theorem Ls.drop {α : Type} {sz : Nat} {arr : α → Array Value} {z : α} {W : World} {a : Option Addr} {n cap : Nat} {l : List α} (h : Ls sz arr z W a n cap l) {q : Nat} (hq : q ≤ n) : Ls sz arr z W (if cap = q then a else a.map (fun x => x.add (q * sz))) (n - q) (cap - q) (l.drop q) := by
  have hle := h.le
  refine ⟨by rw [List.length_drop, h.len], by omega, by have := h.max; omega, ?_⟩
  by_cases hc : cap = q
  · left; omega
  · rw [if_neg hc]
    rcases h.adr with h4 | ⟨b, off, rfl, hat⟩
    · omega
    · refine .inr ⟨b, off + q * sz, by simp [Addr.add], fun i hi j v hj => ?_⟩
      have e : (l.drop q).getD i z = l.getD (q + i) z := by simp [List.getD_eq_getElem?_getD]
      rw [e] at hj
      have := hat (q + i) (by omega) j v hj
      rw [show off + q * sz + i * sz + j = off + (q + i) * sz + j by rw [Nat.add_mul]; omega]
      exact this
theorem slice_rw {W : World} {a : Option Addr} {n cap : Nat} {l : List Rw} (h : Ls 2 Rw.arr Rw.zero W a n cap l) {q : Nat} (hq : q ≤ n) :
    ∃ a', (∀ W', (Instr.slice 27 (.slice a n cap) (some (.int .i64 (q : Int))) none none).run Try.prog W' = .ok (.slice a' (n - q) (cap - q)) W') ∧
      (∀ W', (Instr.sliceAt 27 (.slice a n cap) (some (.int .i64 (q : Int))) none none).run Try.prog W' = .ok (.slice a' (n - q) (cap - q)) W') ∧ Ls 2 Rw.arr Rw.zero W a' (n - q) (cap - q) (l.drop q) := by
  have hle := h.le
  have he : Try.prog.elem 27 = 30 := by kernel_rfl
  obtain ⟨i0, hi, hz0, hz1, hz2⟩ := info_parts Try.infoRw
  have key : ∀ W', (Instr.slice 27 (.slice a n cap) (some (.int .i64 (q : Int))) none none).run Try.prog W' = .ok (.slice (if cap = q then a else a.map (fun x => x.add (q * 2))) (n - q) (cap - q)) W' := fun W' => by
    rw [run_slice_l W' 27 a n cap (by kernel_rfl) .i64 (q : Int) (by omega) (by omega), he]
    have hsz : (sizeOf 30).run Try.prog W' = .ok 2 W' := by simp [sizeOf, typeInfo, hi, hz1, go_sem]
    rw [hsz]
    simp only [Result.andThen_ok, sliced, Int.toNat_natCast]
  refine ⟨_, key, fun W' => ?_, h.drop hq⟩
  rw [run_sliceAt_slice _ _ _ _ _ _ (by kernel_rfl)]
  exact key W'
theorem slice_rwto {W : World} {a : Option Addr} {n cap : Nat} {l : List Rw} (h : Ls 2 Rw.arr Rw.zero W a n cap l) {q : Nat} (hq : q ≤ n) :
    (∀ W', (Instr.slice 27 (.slice a n cap) none (some (.int .i64 (q : Int))) none).run Try.prog W' = .ok (.slice a q cap) W') ∧
      (∀ W', (Instr.sliceAt 27 (.slice a n cap) none (some (.int .i64 (q : Int))) none).run Try.prog W' = .ok (.slice a q cap) W') ∧ Ls 2 Rw.arr Rw.zero W a q cap (l.take q) := by
  have hle := h.le
  have he : Try.prog.elem 27 = 30 := by kernel_rfl
  obtain ⟨i0, hi, hz0, hz1, hz2⟩ := info_parts Try.infoRw
  have key : ∀ W', (Instr.slice 27 (.slice a n cap) none (some (.int .i64 (q : Int))) none).run Try.prog W' = .ok (.slice a q cap) W' := fun W' => by
    have hsz : (sizeOf 30).run Try.prog W' = .ok 2 W' := by simp [sizeOf, typeInfo, hi, hz1, go_sem]
    rw [run_slice_h W' 27 a n cap (by kernel_rfl) .i64 (q : Int) (by omega) (by omega), Int.toNat_natCast, he, hsz]
    simp only [Result.andThen_ok, sliced, Nat.zero_mul, Nat.sub_zero]
    cases a <;> simp [Addr.add]
  refine ⟨key, fun W' => ?_, h.take hq⟩
  rw [run_sliceAt_slice _ _ _ _ _ _ (by kernel_rfl)]
  exact key W'
theorem RwsAt.drop {W : World} {a a' : Option Addr} {n cap cap' q : Nat} {L : List Rw} (h : RwsAt W a n cap L) (hl : Ls 2 Rw.arr Rw.zero W a' (n - q) cap' (L.drop q)) (hq : q ≤ n) : RwsAt W a' (n - q) cap' (L.drop q) :=
  ⟨hl, fun j hj => by
    have e : (L.drop q).getD j Rw.zero = L.getD (q + j) Rw.zero := by simp [List.getD_eq_getElem?_getD]
    rw [e]
    exact h.2 (q + j) (by omega)⟩
theorem RwsAt.take {W : World} {a : Option Addr} {n cap q : Nat} {L : List Rw} (h : RwsAt W a n cap L) (hq : q ≤ n) : RwsAt W a q cap (L.take q) :=
  ⟨h.1.take hq, fun j hj => by
    have e : (L.take q).getD j Rw.zero = L.getD j Rw.zero := by rw [List.getD_eq_getElem?_getD, List.getD_eq_getElem?_getD, List.getElem?_take_of_lt hj]
    rw [e]
    exact h.2 j (by omega)⟩
/-- A slice of cells of the call's own, told by its value. -/
def ClnV (base : Nat) (cs : List Cl) (v : Value) (W : World) : Prop := ∃ a c, v = .slice a cs.length c ∧ OwnC W base (.slice a cs.length c) cs
theorem ClnV.kept {base : Nat} {cs : List Cl} {v : Value} {X Y : World} (h : ClnV base cs v X) (hb : Below X.heap.size X Y) : ClnV base cs v Y := by
  obtain ⟨a, c, e, ho⟩ := h; exact ⟨a, c, e, ho.kept hb⟩
def RowV (base : Nat) (t : ByteArray) (cs : List Cl) (v : Value) (W : World) : Prop := ∃ a c, v = .agg #[.string t, .slice a cs.length c] ∧ OwnC W base (.slice a cs.length c) cs
theorem RowV.kept {base : Nat} {t : ByteArray} {cs : List Cl} {v : Value} {X Y : World} (h : RowV base t cs v X) (hb : Below X.heap.size X Y) : RowV base t cs v Y := by
  obtain ⟨a, c, e, ho⟩ := h; exact ⟨a, c, e, ho.kept hb⟩
/-- A row in a block of its own, as what is appended. -/
def OneV (base : Nat) (t : ByteArray) (cs : List Cl) (v : Value) (W : World) : Prop := ∃ g a c, v = .slice (some ⟨g, 0, none⟩) 1 1 ∧ W.heap[g]? = some (.cells #[.string t, .slice a cs.length c] 30 (0, 0)) ∧ OwnC W base (.slice a cs.length c) cs
theorem OneV.kept {base : Nat} {t : ByteArray} {cs : List Cl} {v : Value} {X Y : World} (h : OneV base t cs v X) (hb : Below X.heap.size X Y) : OneV base t cs v Y := by
  obtain ⟨g, a, c, e, hg, ho⟩ := h; exact ⟨g, a, c, e, heap_below hg hb, ho.kept hb⟩
theorem wpList_append_rwm {w : World} {ops : Array Oper} {rest : List Oper} {o : Oper} {ac : Act} {Q : Exit → Act → World → Prop} (hgd : o.guard = none) (os ox : Operand)
    (ho : o.op = .call { callee := .builtin .append, args := #[os, ox], argTypes := #[27, 27] })
    {base : Nat} {u : Value} {l : List Rw} (hs : ac.eval os = u) (hown : OwnL 2 30 Rw.arr w base u l) {t : ByteArray} {k : List UInt8} (ht : text k = t) {g : Nat} {a9 : Option Addr} {n9 c9 : Nat} (cs : List Cl) {e9 : TypeId}
    (hx : ac.eval ox = .slice (some ⟨g, 0, none⟩) 1 1) (hg : w.heap[g]? = some (.cells #[.string t, .slice a9 n9 c9] e9 (0, 0))) (h63 : l.length ≤ 1000000000) (hbase : base ≤ w.heap.size)
    (h : ∀ v' w', OwnL 2 30 Rw.arr w' base v' (l ++ [⟨k, .slice a9 n9 c9, cs⟩]) → w.grownBy w' u.ownBlock → wpList Try.prog ops Q rest (ac.put o.dst v') w') :
    wpList Try.prog ops Q (o :: rest) ac w := by
  subst ht
  obtain ⟨i0, hi, hz0, hz1, hz2⟩ := info_parts Try.infoRw
  refine wpList_append_own_wide (P := Try.prog) w hgd os ox 27 ho base 30 i0 _ 2 40 Try.underlying27 hi hz0 hz1 hz2 rfl (by decide) u l.length (lCells Rw.arr l) hs hown
    ⟨g, 0, none⟩ 1 1 [.string (text k), .slice a9 n9 c9] hx rfl ?_ ?_ (by unfold maxLen; omega) (by omega) hbase ?_
  · intro j v hj
    rw [addr_add, Nat.zero_add, cell_of_row _ g j #[.string (text k), .slice a9 n9 c9] e9 (0, 0) hg]
    rw [← hj]; simp
  · intro v hv
    simp only [List.mem_cons, List.not_mem_nil, or_false] at hv
    rcases hv with rfl | rfl <;> rfl
  · intro v' w' h2 h3 _
    refine h v' w' ?_ h3
    unfold OwnL
    rw [List.length_append, lCells_append]
    exact h2
theorem OwnC.turn0 {W W' : World} {B B' : Nat} {u v : Value} {cs : List Cl} {L : List Rw} (h : OwnC W B u cs) (hr : OwnL 2 30 Rw.arr W B' v L) (hg : W.grownBy W' v.ownBlock) : OwnC W' B u cs :=
  h.of_block fun q hq => hg.block q (h.lt q hq).2 (fun e => own_kinds h hr hq e)
theorem getD_app {L M : List Rw} {j : Nat} : (L ++ M).getD j Rw.zero = if j < L.length then L.getD j Rw.zero else M.getD (j - L.length) Rw.zero := by
  rw [List.getD_eq_getElem?_getD, List.getD_eq_getElem?_getD, List.getD_eq_getElem?_getD]
  by_cases h : j < L.length
  · rw [if_pos h, List.getElem?_append_left h]
  · rw [if_neg h, List.getElem?_append_right (by omega)]
/-- Rows and more rows, whose cells are younger than all. -/
theorem OwnRw.join {W W' : World} {B B2 n1 : Nat} {v v' : Value} {L M : List Rw} (h : OwnRw W B n1 v L) (hm : ∀ j, j < M.length → OwnC W B2 (M.getD j Rw.zero).u (M.getD j Rw.zero).cs ∧ (M.getD j Rw.zero).cs.length = n1) (ha : ∀ i j, i < j → j < M.length → (M.getD i Rw.zero).u.ownBlock ≠ (M.getD j Rw.zero).u.ownBlock)
    (h1 : 0 < n1) (hB : B ≤ B2) (hlt : ∀ j, j < L.length → ∀ q, (L.getD j Rw.zero).u.ownBlock = some q → q < B2) (hr : OwnL 2 30 Rw.arr W' B v' (L ++ M)) (hg : W.grownBy W' v.ownBlock) : OwnRw W' B n1 v' (L ++ M) := by
  refine ⟨hr, fun j hj => ?_, fun i j hij hj => ?_⟩
  · rw [getD_app]
    rw [List.length_append] at hj
    by_cases e : j < L.length
    · rw [if_pos e]; exact ⟨(h.own j e).1.turn0 h.row hg, (h.own j e).2⟩
    · rw [if_neg e]; exact ⟨((hm _ (by omega)).1.turn0 h.row hg).mono hB, (hm _ (by omega)).2⟩
  · rw [getD_app, getD_app]
    rw [List.length_append] at hj
    by_cases e : j < L.length
    · rw [if_pos (by omega), if_pos e]; exact h.apart i j hij e
    · rw [if_neg e]
      by_cases e2 : i < L.length
      · rw [if_pos e2]
        obtain ⟨hc, hn⟩ := hm (j - L.length) (by omega)
        obtain ⟨g, c, ev, hge, -,-⟩ := own_some hc (by omega)
        intro e3
        have e4 : (M.getD (j - L.length) Rw.zero).u.ownBlock = some g := by rw [ev]; rfl
        have := hlt i e2 g (e3.trans e4)
        omega
      · rw [if_neg e2]; exact ha _ _ (by omega) (by omega)
theorem OwnRw.push0 {W W' : World} {B B2 n1 : Nat} {v v' u : Value} {L : List Rw} {k : List UInt8} {cs : List Cl} (h : OwnRw W B n1 v L) (hn : cs.length = n1) (hc : OwnC W B2 u cs) (h1 : 0 < n1) (hB : B ≤ B2) (hlt : ∀ j, j < L.length → ∀ q, (L.getD j Rw.zero).u.ownBlock = some q → q < B2)
    (hr : OwnL 2 30 Rw.arr W' B v' (L ++ [⟨k, u, cs⟩])) (hg : W.grownBy W' v.ownBlock) : OwnRw W' B n1 v' (L ++ [⟨k, u, cs⟩]) :=
  h.join (M := [⟨k, u, cs⟩]) (fun j hj => by
    have : j = 0 := by simpa using hj
    subst this; exact ⟨hc, hn⟩) (fun i j hij hj => by
    have : j = 0 := by simpa using hj
    omega) h1 hB hlt hr hg

set_option maxRecDepth 100000 in
set_option maxHeartbeats 3200000 in
theorem clonec_c {w : World} {x : Option Addr} {m cap : Nat} {cs : List Cl} (hl : Cls w x m cap cs) (h0 : 0 < m) (hm : m ≤ 1000000) :
    Calls Try.prog 102 #[.slice x m cap] w (fun e w' => ∃ a c, e = .returned (.slice a cs.length c) ∧ OwnC w' w.heap.size (.slice a cs.length c) cs ∧ Below w.heap.size w w') := by
  have hll := hl.len
  obtain ⟨i0, hi, hz0, hz1, hz2⟩ := info_parts Try.infoC
  rcases hl.src with ⟨-, h9⟩ | ⟨a, rfl, hsrc⟩
  · omega
  have q22 : ∀ (w : World) (a : Option Addr) (n c n' c' : Nat), (binOp .eql 28 (.slice a n c) (.slice none n' c')).run Try.prog w = .ok (.bool a.isNone) w := fun w a n c n' c' => Lib.run_eql_slice_nil w _ _ a n c n' c' Try.underlying28
  have HS := Lib.hid (fun (o : Obj) j v (h : (cCells cs)[j]? = some v) => (show (w.alloc o).cell? (a.add j) = some v from by
    have h1 := hsrc j v h
    rw [(alloc_below w o).cell (World.block_lt_of_cell? w _ h1)]
    exact h1))
  have HLL := Lib.hid hll
  clear hl hsrc hll
  go_enter Try.func102, Try.ntmps102
  go_wp2_with (at_builtin; refine wpList_append_own_wide (P := Try.prog) _ rfl _ _ 28 rfl w.heap.size 75 i0 _ 8 72 Try.underlying28 hi hz0 hz1 hz2 rfl (by decide) _ 0 [] rfl (World.ownsRow_made w #[] 0 (Nat.le_refl _) (Nat.zero_le _) rfl) a m cap (cCells cs) rfl (by rw [cCells_length, HLL.out]) (HS.out _) (cCells_one cs) (by unfold maxLen; omega) (by omega) (by simp) ?_; intro v' w' h2 h3 _)
  go_ret
  have h4 : OwnC w' w.heap.size v' cs := by
    unfold OwnC
    rw [HLL.out]
    simpa using h2
  obtain ⟨a4, c4, rfl, -⟩ := h4.cls
  exact ⟨a4, c4, rfl, h4, ((Below.refl _ w).alloc (Nat.le_refl _) _).grown h3 (by simp) (fun k hk => by cases hk; exact Nat.le_refl _)⟩

set_option maxRecDepth 100000 in
set_option maxHeartbeats 6400000 in
theorem mcopied_c {w : World} {x : Option Addr} {m cap n1 : Nat} {L : List Rw} (hl : RwsAt w x m cap L) (hm : m ≤ 1000000) (hn : ∀ r ∈ L, r.cs.length = n1) (h0 : 0 < n1) (h1 : n1 ≤ 1000000) :
    Calls Try.prog 80 #[.slice x m cap] w (fun e w' => ∃ v NN, e = .returned v ∧ NN.map Rw.pr = L.map Rw.pr ∧ OwnRw w' w.heap.size n1 v NN ∧ Below w.heap.size w w') := by
  have hll := hl.1.len
  have hle := hl.1.le
  have hmax := hl.1.max
  have HL := Lib.hid hl
  have HN := Lib.hid (fun q (hq : q < m) => hn _ (rw_mem (L := L) (k := q) (by omega)))
  have HT := Lib.hid (show L.map Rw.pr = (L.take m).map Rw.pr by rw [← hll, List.take_length])
  have HTS := Lib.hid (fun q (hq : q < m) => (show (L.take (q + 1)).map Rw.pr = (L.take q).map Rw.pr ++ [(L.getD q Rw.zero).pr] by
    rw [List.take_add_one, List.getElem?_eq_getElem (by omega), List.getD_eq_getElem?_getD, List.getElem?_eq_getElem (by omega), List.map_append]; rfl))
  clear hl hn hll
  go_enter Try.func80, Try.ntmps80
  go_wp2
  go_loopw [3, 8] (fun o j wr => ∃ (q : Nat) (v : Value) (NN : List Rw), q ≤ m ∧ j = .int .i64 (q : Int) ∧ o = v ∧ NN.map Rw.pr = (L.take q).map Rw.pr ∧ NN.length = q ∧ OwnRw wr w.heap.size n1 v NN ∧ Below w.heap.size w wr) (fun _ j _ => m - (intOf j).toNat)
  case atStart => exact ⟨0, .slice none 0 0, [], by omega, rfl, rfl, rfl, rfl, OwnRw.nil _ _ _, Below.refl _ _⟩
  case round =>
    obtain ⟨q, v, NN, hq, rfl, rfl, hpr, hnl, ho, hbx⟩ := hrel
    obtain ⟨an, cn, ev, -⟩ := ho.at
    rw [hnl] at ev
    subst ev
    have HPR := Lib.hid hpr
    have HNL := Lib.hid hnl
    have HO := Lib.hid ho
    have HBx := Lib.hid hbx
    clear hpr hnl ho hbx
    by_cases hlq : q < m
    · have hqi : (q : Int) < (m : Int) := by omega
      have hqc : (q : Int) < (cap : Int) := by omega
      obtain ⟨bo, offo, ao, no, co, rfl, eu, eno, hco, hat⟩ := HL.out.place hlq
      have hnn := HN.out q hlq
      have hts := HTS.out q hlq
      obtain ⟨y, hy⟩ : ∃ y, L.getD q Rw.zero = y := ⟨_, rfl⟩
      rw [hy] at hat eu eno hco hnn hts
      obtain ⟨ko, uo, cso⟩ := y
      simp only at hat eu eno hco hnn
      have hno : 0 < no ∧ no ≤ 1000000 := by omega
      obtain ⟨to, hto⟩ : ∃ z, text ko = z := ⟨_, rfl⟩
      rw [hto] at hat
      have HTO := Lib.hid hto
      have HNN := Lib.hid hnn
      have HTSQ := Lib.hid hts
      obtain ⟨o0, o1⟩ := hat _ HBx.out
      have HCL := Lib.hid (fun W (h : Below w.heap.size w W) => clonec_c (hco.below h) hno.1 hno.2)
      clear hat hy hto hco hnn hts eno eu hno
      go_upto_region 5 with (fail)
      have hal := alloc_below wr (.cells #[.string to, .slice ao no co] 30)
      have hnew := heap_alloc_new wr (.cells #[.string to, .slice ao no co] 30)
      have HBy := Lib.hid (HBx.out.trans (hal.mono HBx.out.size))
      have HOy := Lib.hid (HO.out.kept hal)
      obtain ⟨g, hg⟩ : ∃ z, wr.heap.size = z := ⟨_, rfl⟩
      rw [hg] at hnew ⊢
      generalize wr.alloc (.cells #[.string to, .slice ao no co] 30) = W2 at *
      have HRW := Lib.hid (fun W (h : Below W2.heap.size W2 W) => row_cells (heap_below hnew h))
      clear hal hnew o0 o1 hg HO HBx
      refine wp_region_flow_tail 8 [none,none,none,none,none,none,none,none,none,none,none,none, some 0, some 1, some 2, some 3, some 4, some 5, some 6, some 7, none,none,none] (fun i => [u12, u13, u14, u15, u16, u17, u18, u19].getD i undef) [(fun v _ => v = .slice an q cn), (fun v _ => v = .pointer (some ⟨g, 0, none⟩)), (fun v _ => v = .string to), (fun v _ => v = .pointer (some ⟨g, 1, none⟩)), (fun v _ => v = .slice ao no co), (ClnV W2.heap.size cso), (RowV W2.heap.size to cso), (OneV W2.heap.size to cso)] (fun _ => False) (by kernel_rfl) (by kernel_rfl) (by kernel_rfl) rfl rfl rfl ?_ ?_ ?_
      · intro g hg v X Y hX hY hv
        simp only [List.mem_cons, List.not_mem_nil, or_false] at hg
        rcases hg with rfl | rfl | rfl | rfl | rfl | rfl | rfl | rfl
        all_goals first
          | exact hv
          | exact hv.kept hY
      · simp only [flowOpsF, List.take_succ_cons, List.take_zero, and_true]
        refine ⟨?_,?_,?_,?_,?_,?_,?_,?_⟩
        · intro xs W hW hn
          simp only [flowAct, zwc, zwn]
          go_wp2_with (fail)
          exact ⟨rfl, _, rfl, Below.refl _ _, rfl, fun h => h.elim⟩
        · intro xs W hW hn
          simp only [flowAct, zwc, zwn]
          go_wp2_with (fail)
          exact ⟨rfl, _, rfl, Below.refl _ _, rfl, fun h => h.elim⟩
        · intro xs W hW hn
          obtain ⟨r0, r1, -⟩ := HRW.out W hW
          simp [flowNeeds, Region.binds] at hn
          simp only [flowAct, zwc, zwn]
          try simp only [hn]
          go_wp2_with (fail)
          exact ⟨rfl, _, rfl, Below.refl _ _, rfl, fun h => h.elim⟩
        · intro xs W hW hn
          simp only [flowAct, zwc, zwn]
          go_wp2_with (fail)
          exact ⟨rfl, _, rfl, Below.refl _ _, rfl, fun h => h.elim⟩
        · intro xs W hW hn
          obtain ⟨r0, r1, -⟩ := HRW.out W hW
          simp [flowNeeds, Region.binds] at hn
          simp only [flowAct, zwc, zwn]
          try simp only [hn]
          go_wp2_with (fail)
          exact ⟨rfl, _, rfl, Below.refl _ _, rfl, fun h => h.elim⟩
        · intro xs W hW hn
          simp [flowNeeds, Region.binds] at hn
          simp only [flowAct, zwc, zwn]
          simp only [hn]
          go_wp2_with (go_at_call 102; (with_reducible refine (HCL.out _ (HBy.out.trans (hW.mono HBy.out.size))).mono ?_); rintro e9 w9 ⟨a9, c9, rfl, ho9, hb9⟩)
          exact ⟨rfl, _, rfl, hb9, ⟨_, _, rfl, ho9.mono hW.size⟩, fun h => h.elim⟩
        · intro xs W hW hn
          simp [flowNeeds, Region.binds] at hn
          obtain ⟨h2, a9, c9, e9, ho9⟩ := hn
          simp only [flowAct, zwc, zwn]
          simp only [h2, e9]
          go_wp2_with (fail)
          exact ⟨rfl, _, rfl, Below.refl _ _, ⟨_, _, rfl, ho9⟩, fun h => h.elim⟩
        · intro xs W hW hn
          simp [flowNeeds, Region.binds] at hn
          obtain ⟨a9, c9, e9, ho9⟩ := hn
          simp only [flowAct, zwc, zwn]
          simp only [e9]
          go_wp2_with (fail)
          exact ⟨rfl, _, rfl, alloc_below _ _, ⟨_, _, _, rfl, heap_alloc_new _ _, ho9.kept (alloc_below _ _)⟩, fun h => h.elim⟩
      · intro xs W hW hall hfr
        clear hfr
        simp only [flowAll, and_true, Nat.zero_add, Nat.reduceAdd] at hall
        obtain ⟨e0, -,-,-,-,-,-, g9, a9, c9, e7, hg9, ho9⟩ := hall
        simp only [flowAct, zwc, zwn, List.drop_succ_cons, List.drop_zero]
        simp only [e0, e7]
        have HOW := Lib.hid (HOy.out.kept hW)
        have HBW := Lib.hid (HBy.out.trans (hW.mono HBy.out.size))
        have HOC := Lib.hid ho9
        have HW2 := Lib.hid HBy.out.size
        have HLT := Lib.hid (fun j (hj : j < NN.length) k hk => ((HOy.out.own j hj).1.lt k hk).2)
        have HG9 := Lib.hid hg9
        clear e0 e7 ho9 hg9 hW HOy HBy HRW HCL
        go_wp2_with (at_builtin; refine wpList_append_rwm rfl _ _ rfl (u := .slice an q cn) rfl HOW.out.row HTO.out cso rfl HG9.out (by rw [HNL.out]; omega) HBW.out.size ?_; intro v' w' ho' hg'; have hpush := HOW.out.push0 HNN.out HOC.out h0 HW2.out HLT.out ho' hg'; have hbk := HBW.out.grown hg' HBW.out.size (fun z e => (HOW.out.row.lt z e).1); have HPU := Lib.hid hpush; have HBK := Lib.hid hbk; clear hpush hbk ho' hg')
        go_roundw
        case rel => exact ⟨q + 1, _, _, by omega, by go_num, rfl, by rw [HTSQ.out, List.map_append, HPR.out]; rfl, by rw [List.length_append, HNL.out]; rfl, HPU.out, HBK.out⟩
        case measure => simp [intOf]; omega
    · obtain rfl : m = q := by omega
      go_wp2
      go_ret
      exact ⟨_, NN, rfl, by rw [HT.out]; exact HPR.out, HO.out, HBx.out⟩
end Go.Proofs.Ytidbjmkfmfojdaa
end

section
namespace Go.Proofs.Ytidbjmkfmfojdaa
open Go.RowKit Go Go.Sort
set_option linter.unusedVariables false
set_option maxRecDepth 20000

theorem join_yes {gs : List Grp} {ka kb : List UInt8} {ca cb : List Cl} (h0 : rgoodS gs ka ca = 0) (h1 : rgoodS gs kb cb = 0) (h : ka = kb) : rjoinS gs ka ca kb cb = (ka, zipN ca cb ca.length, 0) := by unfold rjoinS; rw [if_neg (not_not_intro h0), if_neg (not_not_intro h1), if_neg (not_not_intro h)]
theorem pgood_pos {gs : List Grp} (h : pgoodS gs = 0) : 0 < gs.length := by
  rcases Nat.eq_zero_or_pos gs.length with h0 | h0
  · unfold pgoodS at h; rw [if_pos h0] at h; cases h
  · exact h0

end Go.Proofs.Ytidbjmkfmfojdaa
end

section
namespace Go.Proofs.Ytidbjmkfmfojdaa
open Go.RowKit Go Go.Sort
set_option linter.unusedVariables false
set_option maxRecDepth 20000

theorem good_t {p : Int} {c : Cl} (h : c.good p = true) : c.t.length ≤ 64 := by
  obtain ⟨n, s, a, b, g, t, d, e⟩ := c
  unfold Cl.good cgoodS at h
  simp only [Bool.and_eq_true, Bool.or_eq_true, Bool.not_eq_true', decide_eq_true_eq] at h
  rcases h.2 with h5 | ⟨-,-,-, h5, -⟩
  · unfold wroteS at h5
    simp only [Bool.or_eq_false_iff, bne_eq_false_iff_eq] at h5
    show t.length ≤ 64
    rw [h5.2.2.2.2.2]; simp
  · exact h5
theorem rgood_short {gs : List Grp} {k : List UInt8} {cs : List Cl} (h : rgoodS gs k cs = 0) : pgoodS gs = 0 ∧ k.length ≤ 32 ∧ cs.length = gs.length ∧ cs.length ≤ 1000000 ∧ ∀ c ∈ cs, c.t.length ≤ 64 := by
  obtain ⟨h1, h2, h3, h4⟩ := rgood_inv h
  have hp := pgood_len h1
  refine ⟨h1, ?_, h3, by omega, fun c hc => ?_⟩
  · unfold keyS at h2
    split at h2
    · cases h2
    · split at h2
      · cases h2
      · omega
  · obtain ⟨i, hi, rfl⟩ := List.getElem_of_mem hc
    have hg := good_at h hi
    have e : cs.getD i Cl.zero = cs[i] := by rw [List.getD_eq_getElem?_getD, List.getElem?_eq_getElem hi]; rfl
    rw [e] at hg
    exact good_t hg
end Go.Proofs.Ytidbjmkfmfojdaa
end

section
namespace Go.Proofs.Ytidbjmkfmfojdaa
open Go.RowKit Go Go.Sort
set_option linter.unusedVariables false
set_option maxRecDepth 20000

/-- append of rows that lie in memory. -/
theorem Ls.src {W : World} {a : Option Addr} {n cap : Nat} {L : List Rw} (h : Ls 2 Rw.arr Rw.zero W a n cap L) : n = 0 ∨ ∃ b off, a = some ⟨b, off, none⟩ ∧ ∀ j v, (lCells Rw.arr L)[j]? = some v → W.cell? ((⟨b, off, none⟩ : Addr).add j) = some v := by
  by_cases hn : n = 0
  · exact .inl hn
  · right
    rcases h.adr with h4 | ⟨b, off, rfl, hat⟩
    · have := h.le; omega
    · refine ⟨b, off, rfl, fun j v hj => ?_⟩
      have hjl : j < L.length * 2 := by
        have := (List.getElem?_eq_some_iff.1 hj).1
        rwa [lCells_length (sz := 2) rw_size] at this
      have e := lCells_get (z := Rw.zero) rw_size L (j / 2) (j % 2) (by omega) (Nat.mod_lt _ (by omega))
      rw [show j / 2 * 2 + j % 2 = j by omega, hj] at e
      have := hat (j / 2) (by have := h.len; omega) (j % 2) v e.symm
      rw [addr_add]
      rw [show off + j / 2 * 2 + j % 2 = off + j by omega] at this
      exact this
theorem rwcells_one (L : List Rw) (h : ∀ j, j < L.length → ∃ a n c, (L.getD j Rw.zero).u = .slice a n c) : ∀ v ∈ lCells Rw.arr L, v.oneCell' = true := by
  intro v hv
  obtain ⟨r, hr, hv⟩ := List.mem_flatMap.1 hv
  obtain ⟨j, hj, rfl⟩ := List.getElem_of_mem hr
  obtain ⟨a, n, c, e⟩ := h j hj
  rw [List.getD_eq_getElem?_getD, List.getElem?_eq_getElem hj] at e
  have e : (L[j]).u = .slice a n c := e
  have hv : v ∈ [Value.string (text (L[j]).k), (L[j]).u] := hv
  rw [e] at hv
  simp only [List.mem_cons, List.not_mem_nil, or_false] at hv
  rcases hv with rfl | rfl <;> rfl
theorem wpList_append_rws {w : World} {ops : Array Oper} {rest : List Oper} {o : Oper} {ac : Act} {Q : Exit → Act → World → Prop} (hgd : o.guard = none) (os ox : Operand)
    (ho : o.op = .call { callee := .builtin .append, args := #[os, ox], argTypes := #[27, 27] })
    {base : Nat} {u : Value} {l M : List Rw} (hs : ac.eval os = u) (hown : OwnL 2 30 Rw.arr w base u l) {a : Option Addr} {cap : Nat} (hx : ac.eval ox = .slice a M.length cap) (hm : RwsAt w a M.length cap M) (h63 : l.length + M.length ≤ 1000000000) (hbase : base ≤ w.heap.size)
    (h : ∀ v' w', OwnL 2 30 Rw.arr w' base v' (l ++ M) → w.grownBy w' u.ownBlock → wpList Try.prog ops Q rest (ac.put o.dst v') w') :
    wpList Try.prog ops Q (o :: rest) ac w := by
  obtain ⟨i0, hi, hz0, hz1, hz2⟩ := info_parts Try.infoRw
  rcases hm.1.src with hz | ⟨b, off, rfl, hsrc⟩
  · have hM : M = [] := List.eq_nil_of_length_eq_zero hz
    subst hM
    refine wpList_plain hgd fun K hK => ?_
    have hsr : Src Try.prog i0.size 27 (.slice a 0 cap) 0 [] w := by
      cases a with
      | none => exact Src.ofNil w Try.underlying27 cap
      | some a => exact Src.ofSlice w Try.underlying27 a 0 cap [] (by simp) (by simp) (by simp)
    rcases hown.2 with ⟨rfl, hn0⟩ | ⟨g, cp, cur, rfl, hB, hgg, hnc, hcm, hcs, htk⟩
    · have hr := run_append_zero (P := Try.prog) w 27 27 o.type 30 i0 Try.underlying27 hi (.slice a 0 cap) hsr
      unfold Oper.wp execOp
      simp only [ho, resolve, invoke, builtin, Sem.run_bind, Sem.run_pure, Result.andThen_ok, List.map_toArray, List.map_cons, List.map_nil, hs, hx, List.length_nil, hr]
      exact hK _ _ (h _ _ (by rw [List.append_nil]; exact hown) (World.grownBy.refl _ _))
    · have hr := run_append_room_src (P := Try.prog) (w := w) 27 27 o.type 30 i0 Try.underlying27 hi g 0 l.length cp (.slice a 0 cap) 0 [] hsr (by omega) (fun j hj => absurd hj (by simp)) (fun j hj => absurd hj (by simp))
      have hw : w.setCells g (0 + l.length * i0.size) [] = w := by simp [World.setCells]
      rw [hw] at hr
      unfold Oper.wp execOp
      simp only [ho, resolve, invoke, builtin, Sem.run_bind, Sem.run_pure, Result.andThen_ok, List.map_toArray, List.map_cons, List.map_nil, hs, hx, List.length_nil, hr]
      exact hK _ _ (h _ _ (by rw [List.append_nil]; exact hown) (World.grownBy.refl _ _))
  · refine wpList_append_own_wide (P := Try.prog) w hgd os ox 27 ho base 30 i0 _ 2 40 Try.underlying27 hi hz0 hz1 hz2 rfl (by decide) u l.length (lCells Rw.arr l) hs hown
      ⟨b, off, none⟩ M.length cap (lCells Rw.arr M) hx (by rw [lCells_length (sz := 2) rw_size]) hsrc (rwcells_one M fun j hj => by obtain ⟨a', c', e, -⟩ := hm.2 j hj; exact ⟨_, _, _, e⟩) (by unfold maxLen; omega) (by omega) hbase ?_
    intro v' w' h2 h3 _
    refine h v' w' ?_ h3
    unfold OwnL
    rw [List.length_append, lCells_append]
    exact h2
theorem wrote_row {W : World} {q : Nat} {k0 : ByteArray} {v0 : Value} (h : W.heap[q]? = some (.cells #[.string k0, v0] 30 (0, 0))) (k : ByteArray) (v : Value) : Wrote q #[.string k, v] 30 W ((W.setCell ⟨q, 0, none⟩ (.string k)).setCell ⟨q, 1, none⟩ v) := by
  have hx := ((Below.refl 0 W).setCell (p := ⟨q, 0, none⟩) (Nat.zero_le _) (.string k)).setCell (p := ⟨q, 1, none⟩) (Nat.zero_le _) v
  refine ⟨hx.os, hx.tape, hx.output, hx.size, row_set h k v, fun j hj hne => ?_⟩
  rw [heap_setCell_other _ _ _ _ (by exact hne), heap_setCell_other _ _ _ _ (by exact hne)]
def lenV : Value → Nat | .slice _ n _ => n | _ => 0
def MergePost (R : List Rp) (n1 : Nat) (w : World) (e : Ending) (w' : World) : Prop := ∃ v NN, e = .returned v ∧ NN.map Rw.pr = R ∧ OwnRw w' w.heap.size n1 v NN ∧ Below w.heap.size w w'
/-- What a join tells, told by its value. -/
def JTup (base : Nat) (t : ByteArray) (cs : List Cl) (v : Value) (W : World) : Prop := ∃ a c, v = .tuple #[.agg #[.string t, .slice a cs.length c], .int .i64 0] ∧ OwnC W base (.slice a cs.length c) cs
theorem JTup.kept {base : Nat} {t : ByteArray} {cs : List Cl} {v : Value} {X Y : World} (h : JTup base t cs v X) (hb : Below X.heap.size X Y) : JTup base t cs v Y := by
  obtain ⟨a, c, e, ho⟩ := h; exact ⟨a, c, e, ho.kept hb⟩
theorem OwnC.wrote {W W' : World} {B q : Nat} {u : Value} {cs : List Cl} {zs ds : Array Value} (h : OwnC W B u cs) (hq : W.heap[q]? = some (.cells ds 30 (0, 0))) (hw : Wrote q zs 30 W W') : OwnC W' B u cs :=
  h.of_block fun g hg => hw.rest g (h.lt g hg).2 (fun e => by
    obtain ⟨cur, fr, hc⟩ := own_block h hg
    subst e
    rw [hq] at hc
    injection hc with hc
    injection hc with h1 h2
    exact absurd h2 (by decide))
/-- What each operation tells where two rows of one key are joined. -/
def JG (sl sa ra sb rb pa pb : Value) (base : Nat) (t : ByteArray) (cs : List Cl) (i : Nat) (v : Value) (W : World) : Prop :=
  match i with
  | 0 => v = sl | 1 => v = sa | 2 => v = pa | 3 => v = ra | 4 => v = sb | 5 => v = pb | 6 => v = rb
  | 7 => JTup base t cs v W | 8 => JTup base t cs v W | 9 => RowV base t cs v W | 10 => v = .int .i64 0 | _ => True
theorem JG.st {sl sa ra sb rb pa pb : Value} {base : Nat} {t : ByteArray} {cs : List Cl} : GSt 30 (JG sl sa ra sb rb pa pb base t cs) where
  grow i v X Y h hb := by
    unfold JG at h ⊢
    split at h <;> first | exact h | exact h.kept hb
  wrote i v X Y q zs ds hq hw h := by
    unfold JG at h ⊢
    split at h
    all_goals first
      | exact h
      | (obtain ⟨a, c, e, ho⟩ := h; exact ⟨a, c, e, ho.wrote hq hw⟩)

set_option maxRecDepth 100000 in
set_option maxHeartbeats 12800000 in
theorem mmerged_c {w : World} {x xa xb : Option Addr} {n1 cap ma capa mb capb : Nat} {gs : List Grp} {LA LB : List Rw} (hg : Grs w x n1 cap gs) (hs : ∀ g ∈ gs, g.1.length ≤ 9223372036854775807) (ha : RwsAt w xa ma capa LA) (hb : RwsAt w xb mb capb LB)
    (hga : ∀ r ∈ LA, rgoodS gs r.k r.cs = 0) (hgb : ∀ r ∈ LB, rgoodS gs r.k r.cs = 0) (hm : ma + mb ≤ 1000000) (h0 : 0 < n1) (h1 : n1 ≤ 1000000) :
    Calls Try.prog 57 #[.slice x n1 cap, .slice xa ma capa, .slice xb mb capb] w (MergePost (mrg Op.bytesLess opC (LA.map Rw.pr) (LB.map Rw.pr)) n1 w) := by
  have hgl := hg.len
  have HCN := Lib.hid (fun (L : List Rw) (h : ∀ r ∈ L, rgoodS gs r.k r.cs = 0) r (hr : r ∈ L) => (show r.cs.length = n1 from by rw [(rgood_short (h r hr)).2.2.1]; exact hgl))
  have HJN := Lib.hid (fun W (h : Below w.heap.size w W) (k : List UInt8) (u v : List Cl) (hu : rgoodS gs k u = 0) (hv : rgoodS gs k v = 0) (a1 : Option Addr) (m1 c1 : Nat) (h1 : Cls W a1 m1 c1 u) (a2 : Option Addr) (m2 c2 : Nat) (h2 : Cls W a2 m2 c2 v) =>
    (show Calls Try.prog 81 #[.slice x n1 cap, .agg #[.string (text k), .slice a1 m1 c1], .agg #[.string (text k), .slice a2 m2 c2]] W (RowPost (k, zipN u v u.length, 0) W) from by
      have hj := rowjoin_c (hg.below h) hs h1 (fun c hc => Nat.le_trans ((rgood_short hu).2.2.2.2 c hc) (by omega)) k (by have := (rgood_short hu).2.1; omega) h2 (fun c hc => Nat.le_trans ((rgood_short hv).2.2.2.2 c hc) (by omega)) k (by have := (rgood_short hv).2.1; omega)
      rw [join_yes hu hv rfl] at hj
      exact hj))
  obtain ⟨RV, hRV⟩ : ∃ z, mrg Op.bytesLess opC (LA.map Rw.pr) (LB.map Rw.pr) = z := ⟨_, rfl⟩
  have HA := Lib.hid ha
  have HB := Lib.hid hb
  have HGA := Lib.hid hga
  have HGB := Lib.hid hgb
  have HRV := Lib.hid hRV
  rw [hRV]
  clear hRV ha hb hga hgb hg hs hgl
  go_enter Try.func57, Try.ntmps57
  go_wp2
  go_step3
  go_wp2
  go_step3
  go_wp2
  go_loopw [1, 2, 7] (fun a b o wr => ∃ (xa : Option Addr) (ma ca : Nat) (LA : List Rw) (xb : Option Addr) (mb cb : Nat) (LB OL : List Rw) (v : Value), a = .slice xa ma ca ∧ b = .slice xb mb cb ∧ o = v ∧ RwsAt w xa ma ca LA ∧ RwsAt w xb mb cb LB ∧ (∀ r ∈ LA, rgoodS gs r.k r.cs = 0) ∧ (∀ r ∈ LB, rgoodS gs r.k r.cs = 0) ∧
    OwnRw wr w.heap.size n1 v OL ∧ OL.map Rw.pr ++ mrg Op.bytesLess opC (LA.map Rw.pr) (LB.map Rw.pr) = RV ∧ OL.length + ma + mb ≤ 1000000 ∧ Below w.heap.size w wr) (fun a b _ _ => lenV a + lenV b)
  case atStart => exact ⟨_, _, _, LA, _, _, _, LB, [], _, rfl, rfl, rfl, HA.out, HB.out, HGA.out, HGB.out, OwnRw.nil _ _ _, HRV.out, by simp; omega, Below.refl _ _⟩
  case round =>
    clear HA HB HGA HGB HRV
    obtain ⟨xa, ma, ca, LA, xb, mb, cb, LB, OL, v, rfl, rfl, rfl, ha, hb, hga, hgb, ho, hrv, hsz, hbx⟩ := hrel
    obtain ⟨an, cn, ev, -⟩ := ho.at
    subst ev
    have hla := ha.1.len
    have hlb := hb.1.len
    have hlea := ha.1.le
    have hleb := hb.1.le
    have hmxa := ha.1.max
    have hmxb := hb.1.max
    have HA := Lib.hid ha
    have HB := Lib.hid hb
    have HGA := Lib.hid hga
    have HGB := Lib.hid hgb
    have HOx := Lib.hid ho
    have HBx := Lib.hid hbx
    have HRV := Lib.hid hrv
    have HLA := Lib.hid hla
    have HLB := Lib.hid hlb
    have hol : OL.length ≤ 1000000 := by omega
    have HOL := Lib.hid hol
    clear ha hb hga hgb ho hbx hrv hla hlb hol
    by_cases hma : ma = 0
    · subst hma
      have HRR := Lib.hid (show RV = OL.map Rw.pr ++ LB.map Rw.pr by
        rw [← HRV.out, List.eq_nil_of_length_eq_zero HLA.out]
        rw [List.map_nil, mrg_nil])
      go_wp2_with (first
        | (go_at_call 80; (with_reducible refine (mcopied_c (HB.out.below HBx.out) (by omega) (HCN.out LB HGB.out) h0 h1).mono ?_); rintro e9 w9 ⟨v9, MM, rfl, hpm, hom, hbm⟩
           have HPM := Lib.hid hpm
           have HOM := Lib.hid hom
           have HB9 := Lib.hid (HBx.out.trans (hbm.mono HBx.out.size))
           have HO9 := Lib.hid (HOx.out.kept hbm)
           have HLT := Lib.hid (fun j (hj : j < OL.length) k hk => ((HOx.out.own j hj).1.lt k hk).2)
           have HWS := Lib.hid HBx.out.size
           obtain ⟨a9, c9, ev9, hat9⟩ := hom.at
           subst ev9
           have HAT9 := Lib.hid hat9
           have HML := Lib.hid (show MM.length ≤ 1000000 by have e := congrArg List.length hpm; have := HLB.out; simp at e; omega)
           clear hpm hom hbm hat9 HBx HOx)
        | (at_builtin; refine wpList_append_rws rfl _ _ rfl (u := .slice an OL.length cn) rfl HO9.out.row rfl HAT9.out (by have := HOL.out; have := HML.out; omega) HB9.out.size ?_; intro v' w' ho' hg'
           have hjoin := HO9.out.join (B2 := wr.heap.size) (fun j hj => HOM.out.own j hj) HOM.out.apart h0 HWS.out HLT.out ho' hg'
           have hbk := HB9.out.grown hg' HB9.out.size (fun z e => (HO9.out.row.lt z e).1)
           have HJN := Lib.hid hjoin
           have HBK := Lib.hid hbk
           clear hjoin hbk ho' hg'))
      try rw [Exit.noGoto_ret]
      go_ret
      exact ⟨_, _, rfl, by rw [HRR.out, List.map_append, HPM.out], HJN.out, HBK.out⟩
    · by_cases hmb : mb = 0
      · subst hmb
        have HRR := Lib.hid (show RV = OL.map Rw.pr ++ LA.map Rw.pr by
          rw [← HRV.out, List.eq_nil_of_length_eq_zero HLB.out]
          rw [List.map_nil, mrg_none])
        go_wp2_with (first
          | (go_at_call 80; (with_reducible refine (mcopied_c (HA.out.below HBx.out) (by omega) (HCN.out LA HGA.out) h0 h1).mono ?_); rintro e9 w9 ⟨v9, MM, rfl, hpm, hom, hbm⟩
             have HPM := Lib.hid hpm
             have HOM := Lib.hid hom
             have HB9 := Lib.hid (HBx.out.trans (hbm.mono HBx.out.size))
             have HO9 := Lib.hid (HOx.out.kept hbm)
             have HLT := Lib.hid (fun j (hj : j < OL.length) k hk => ((HOx.out.own j hj).1.lt k hk).2)
             have HWS := Lib.hid HBx.out.size
             obtain ⟨a9, c9, ev9, hat9⟩ := hom.at
             subst ev9
             have HAT9 := Lib.hid hat9
             have HML := Lib.hid (show MM.length ≤ 1000000 by have e := congrArg List.length hpm; have := HLA.out; simp at e; omega)
             clear hpm hom hbm hat9 HBx HOx)
          | (at_builtin; refine wpList_append_rws rfl _ _ rfl (u := .slice an OL.length cn) rfl HO9.out.row rfl HAT9.out (by have := HOL.out; have := HML.out; omega) HB9.out.size ?_; intro v' w' ho' hg'
             have hjoin := HO9.out.join (B2 := wr.heap.size) (fun j hj => HOM.out.own j hj) HOM.out.apart h0 HWS.out HLT.out ho' hg'
             have hbk := HB9.out.grown hg' HB9.out.size (fun z e => (HO9.out.row.lt z e).1)
             have HJN := Lib.hid hjoin
             have HBK := Lib.hid hbk
             clear hjoin hbk ho' hg'))
        try rw [Exit.noGoto_ret]
        go_ret
        exact ⟨_, _, rfl, by rw [HRR.out, List.map_append, HPM.out], HJN.out, HBK.out⟩
      · obtain ⟨pa, rfl⟩ : ∃ p, ma = p + 1 := ⟨ma - 1, by omega⟩
        obtain ⟨pb, rfl⟩ : ∃ p, mb = p + 1 := ⟨mb - 1, by omega⟩
        obtain ⟨ra, TA, rfl⟩ : ∃ r T, LA = r :: T := by
          cases LA with
          | nil => have := HLA.out; simp at this
          | cons r T => exact ⟨r, T, rfl⟩
        obtain ⟨rb, TB, rfl⟩ : ∃ r T, LB = r :: T := by
          cases LB with
          | nil => have := HLB.out; simp at this
          | cons r T => exact ⟨r, T, rfl⟩
        obtain ⟨ba, offa, aa, na, c1, rfl, eua, ena, hca, hata⟩ := HA.out.place (k := 0) (by omega)
        obtain ⟨bb, offb, ab, nb, c2, rfl, eub, enb, hcb, hatb⟩ := HB.out.place (k := 0) (by omega)
        simp only [List.getD_cons_zero, Nat.zero_mul, Nat.add_zero] at eua ena hca hata eub enb hcb hatb
        obtain ⟨ka, ua, csa⟩ := ra
        obtain ⟨kb, ub, csb⟩ := rb
        simp only at eua ena hca hata eub enb hcb hatb
        subst eua eub
        have hga0 := HGA.out _ (List.mem_cons_self ..)
        have hgb0 := HGB.out _ (List.mem_cons_self ..)
        have HGA1 := Lib.hid (fun r hr => HGA.out r (List.mem_cons_of_mem _ hr))
        have HGB1 := Lib.hid (fun r hr => HGB.out r (List.mem_cons_of_mem _ hr))
        simp only at hga0 hgb0
        have hte := text_lss ka kb
        have htf := text_lss kb ka
        obtain ⟨ta, hta⟩ : ∃ z, text ka = z := ⟨_, rfl⟩
        obtain ⟨tb, htb⟩ : ∃ z, text kb = z := ⟨_, rfl⟩
        rw [hta] at hata
        rw [htb] at hatb
        rw [hta, htb] at hte htf
        obtain ⟨BL, hBL⟩ : ∃ z, Op.bytesLess ka kb = z := ⟨_, rfl⟩
        obtain ⟨BG, hBG⟩ : ∃ z, Op.bytesLess kb ka = z := ⟨_, rfl⟩
        rw [hBL] at hte
        rw [hBG] at htf
        have HAW0 := Lib.hid hata
        have HBW0 := Lib.hid hatb
        have HTA := Lib.hid hta
        have HTB := Lib.hid htb
        have HGA0 := Lib.hid hga0
        have HGB0 := Lib.hid hgb0
        have HBL := Lib.hid hBL
        have HBG := Lib.hid hBG
        have HCA := Lib.hid hca
        have HCB := Lib.hid hcb
        -- the cuts
        obtain ⟨a2, hsa1, hsa2, hsa3⟩ := slice_rw HA.out.1 (q := 1) (by omega)
        obtain ⟨b2, hsb1, hsb2, hsb3⟩ := slice_rw HB.out.1 (q := 1) (by omega)
        obtain ⟨hta1, hta2, -⟩ := slice_rwto HA.out.1 (q := 1) (by omega)
        obtain ⟨htb1, htb2, -⟩ := slice_rwto HB.out.1 (q := 1) (by omega)
        have HA1 := Lib.hid (show RwsAt w a2 pa (ca - 1) TA from HA.out.drop hsa3 (by omega))
        have HB1 := Lib.hid (show RwsAt w b2 pb (cb - 1) TB from HB.out.drop hsb3 (by omega))
        have HA0 := Lib.hid (show RwsAt w (some ⟨ba, offa, none⟩) 1 ca [⟨ka, .slice aa na c1, csa⟩] from HA.out.take (q := 1) (by omega))
        have HB0 := Lib.hid (show RwsAt w (some ⟨bb, offb, none⟩) 1 cb [⟨kb, .slice ab nb c2, csb⟩] from HB.out.take (q := 1) (by omega))
        have hsa1 : ∀ W', (Instr.slice 27 (.slice (some ⟨ba, offa, none⟩) (pa + 1) ca) (some (.int .i64 1)) none none).run Try.prog W' = .ok (.slice a2 pa (ca - 1)) W' := hsa1
        have hsa2 : ∀ W', (Instr.sliceAt 27 (.slice (some ⟨ba, offa, none⟩) (pa + 1) ca) (some (.int .i64 1)) none none).run Try.prog W' = .ok (.slice a2 pa (ca - 1)) W' := hsa2
        have hsb1 : ∀ W', (Instr.slice 27 (.slice (some ⟨bb, offb, none⟩) (pb + 1) cb) (some (.int .i64 1)) none none).run Try.prog W' = .ok (.slice b2 pb (cb - 1)) W' := hsb1
        have hsb2 : ∀ W', (Instr.sliceAt 27 (.slice (some ⟨bb, offb, none⟩) (pb + 1) cb) (some (.int .i64 1)) none none).run Try.prog W' = .ok (.slice b2 pb (cb - 1)) W' := hsb2
        have hta1 : ∀ W', (Instr.slice 27 (.slice (some ⟨ba, offa, none⟩) (pa + 1) ca) none (some (.int .i64 1)) none).run Try.prog W' = .ok (.slice (some ⟨ba, offa, none⟩) 1 ca) W' := hta1
        have hta2 : ∀ W', (Instr.sliceAt 27 (.slice (some ⟨ba, offa, none⟩) (pa + 1) ca) none (some (.int .i64 1)) none).run Try.prog W' = .ok (.slice (some ⟨ba, offa, none⟩) 1 ca) W' := hta2
        have htb1 : ∀ W', (Instr.slice 27 (.slice (some ⟨bb, offb, none⟩) (pb + 1) cb) none (some (.int .i64 1)) none).run Try.prog W' = .ok (.slice (some ⟨bb, offb, none⟩) 1 cb) W' := htb1
        have htb2 : ∀ W', (Instr.sliceAt 27 (.slice (some ⟨bb, offb, none⟩) (pb + 1) cb) none (some (.int .i64 1)) none).run Try.prog W' = .ok (.slice (some ⟨bb, offb, none⟩) 1 cb) W' := htb2
        have HAF := Lib.hid HA.out
        have HBF := Lib.hid HB.out
        clear hsa3 hsb3 HA HB HGA HGB hata hatb hta htb hga0 hgb0 hBL hBG hca hcb ena enb HLA HLB
        have HAW := Lib.hid (fun W (h : Below w.heap.size w W) => HAW0.out W h)
        have HBW := Lib.hid (fun W (h : Below w.heap.size w W) => HBW0.out W h)
        clear HAW0 HBW0
        go_upto_region 9 with (fail)
        refine wp_region_flow [none,none,none,none,none,none,none,none,none,none,none,none,none,none,none,none,none,none,none,none,none,none,none,none,none,none,none,none,none,none,none,none,none,none,none,none,none,none,none,none,none,none,none,none,none, some 9, some 0, some 1, some 2, some 3, some 4, some 5, some 6, some 7, some 8, none,none,none,none,none,none,none,none,none,none,none,none,none,none,none,none,none,none,none,none,none,none,none,none,none] (fun i => [u46, u47, u48, u49, u50, u51, u52, u53, u54, u45].getD i undef) [(fun v _ => v = .slice (some ⟨ba, offa, none⟩) (pa + 1) ca), (fun v _ => v = .pointer (some ⟨ba, offa, none⟩)), (fun v _ => v = .pointer (some ⟨ba, offa, none⟩)), (fun v _ => v = .string ta), (fun v _ => v = .slice (some ⟨bb, offb, none⟩) (pb + 1) cb), (fun v _ => v = .pointer (some ⟨bb, offb, none⟩)), (fun v _ => v = .pointer (some ⟨bb, offb, none⟩)), (fun v _ => v = .string tb), (fun v _ => v = .bool BL), (fun v _ => v = .bool BL)] (by kernel_rfl) (by kernel_rfl) rfl rfl rfl ?_ ?_ ?_
        · intro g hg v X Y hX hY hv
          simp only [List.mem_cons, List.not_mem_nil, or_false] at hg
          rcases hg with rfl | rfl | rfl | rfl | rfl | rfl | rfl | rfl | rfl | rfl
          all_goals first
            | exact hv
            | exact hv.kept hY
        · simp only [flowOps, and_true]
          refine ⟨?_,?_,?_,?_,?_,?_,?_,?_,?_,?_⟩
          · intro xs W hW hn
            simp only [flowAct, zwc, zwn]
            go_wp2_with (fail)
            exact ⟨rfl, _, rfl, Below.refl _ _, rfl⟩
          · intro xs W hW hn
            simp [flowNeeds, Region.binds] at hn
            simp only [flowAct, zwc, zwn]
            try simp only [hn]
            go_wp2_with (fail)
            exact ⟨rfl, _, rfl, Below.refl _ _, rfl⟩
          · intro xs W hW hn
            simp [flowNeeds, Region.binds] at hn
            simp only [flowAct, zwc, zwn]
            try simp only [hn]
            go_wp2_with (fail)
            exact ⟨rfl, _, rfl, Below.refl _ _, rfl⟩
          · intro xs W hW hn
            obtain ⟨a0, a1⟩ := HAW.out W (HBx.out.trans (hW.mono HBx.out.size))
            simp [flowNeeds, Region.binds] at hn
            simp only [flowAct, zwc, zwn]
            try simp only [hn]
            go_wp2_with (fail)
            exact ⟨rfl, _, rfl, Below.refl _ _, rfl⟩
          · intro xs W hW hn
            simp only [flowAct, zwc, zwn]
            go_wp2_with (fail)
            exact ⟨rfl, _, rfl, Below.refl _ _, rfl⟩
          · intro xs W hW hn
            simp [flowNeeds, Region.binds] at hn
            simp only [flowAct, zwc, zwn]
            try simp only [hn]
            go_wp2_with (fail)
            exact ⟨rfl, _, rfl, Below.refl _ _, rfl⟩
          · intro xs W hW hn
            simp [flowNeeds, Region.binds] at hn
            simp only [flowAct, zwc, zwn]
            try simp only [hn]
            go_wp2_with (fail)
            exact ⟨rfl, _, rfl, Below.refl _ _, rfl⟩
          · intro xs W hW hn
            obtain ⟨b0, b1⟩ := HBW.out W (HBx.out.trans (hW.mono HBx.out.size))
            simp [flowNeeds, Region.binds] at hn
            simp only [flowAct, zwc, zwn]
            try simp only [hn]
            go_wp2_with (fail)
            exact ⟨rfl, _, rfl, Below.refl _ _, rfl⟩
          · intro xs W hW hn
            simp [flowNeeds, Region.binds] at hn
            simp only [flowAct, zwc, zwn]
            try simp only [hn]
            go_wp2_with (fail)
            exact ⟨rfl, _, rfl, Below.refl _ _, rfl⟩
          · intro xs W hW hn
            simp [flowNeeds, Region.binds] at hn
            simp only [flowAct, zwc, zwn]
            try simp only [hn]
            go_wp2_with (fail)
            exact ⟨rfl, _, rfl, Below.refl _ _, rfl⟩
        · intro xs W hW hall
          simp only [flowAll, and_true, Nat.zero_add, Nat.reduceAdd] at hall
          obtain ⟨-,-,-,-,-,-,-,-,-, eL⟩ := hall
          simp only [flowAct, zwc, zwn]
          simp only [eL]
          have hbk := HBx.out.trans (hW.mono HBx.out.size)
          have hok := HOx.out.kept hW
          clear eL
          obtain ⟨WK, hWK⟩ : ∃ X, W = X := ⟨_, rfl⟩
          rw [hWK] at hbk hok ⊢
          clear hWK hW HBx HOx
          have HBx := Lib.hid hbk
          have HOx := Lib.hid hok
          clear hbk hok
          cases BL with
          | true =>
            have HMR := Lib.hid (mrg_lt opC (x := (ka, csa)) (y := (kb, csb)) (a := TA.map Rw.pr) (b := TB.map Rw.pr) HBL.out)
            go_wp2_with (first
              | (go_at_call 80; (with_reducible refine (mcopied_c (HA0.out.below HBx.out) (by omega) (HCN.out _ (fun r hr => by rw [List.mem_singleton] at hr; subst hr; exact HGA0.out)) h0 h1).mono ?_); rintro e9 w9 ⟨v9, MM, rfl, hpm, hom, hbm⟩
                 have HPM := Lib.hid hpm
                 have HOM := Lib.hid hom
                 have HB9 := Lib.hid (HBx.out.trans (hbm.mono HBx.out.size))
                 have HO9 := Lib.hid (HOx.out.kept hbm)
                 have HLT := Lib.hid (fun j (hj : j < OL.length) k hk => ((HOx.out.own j hj).1.lt k hk).2)
                 have HWS := Lib.hid HBx.out.size
                 obtain ⟨a9, c9, ev9, hat9⟩ := hom.at
                 subst ev9
                 have HAT9 := Lib.hid hat9
                 have HML := Lib.hid (show MM.length ≤ 1000000 by have e := congrArg List.length hpm; simp at e; omega)
                 clear hpm hom hbm hat9 HBx HOx)
              | (at_builtin; refine wpList_append_rws rfl _ _ rfl (u := .slice an OL.length cn) rfl HO9.out.row rfl HAT9.out (by have := HOL.out; have := HML.out; omega) HB9.out.size ?_; intro v' w' ho' hg'
                 have hjoin := HO9.out.join (B2 := WK.heap.size) (fun j hj => HOM.out.own j hj) HOM.out.apart h0 HWS.out HLT.out ho' hg'
                 have hbk := HB9.out.grown hg' HB9.out.size (fun z e => (HO9.out.row.lt z e).1)
                 have HJN := Lib.hid hjoin
                 have HBK := Lib.hid hbk
                 clear hjoin hbk ho' hg'))
            go_roundw
            case rel =>
              have hp : MM.map Rw.pr = [(ka, csa)] := HPM.out
              have hl : MM.length = 1 := by have := congrArg List.length hp; simpa using this
              exact ⟨_, _, _, TA, _, _, _, (⟨kb, .slice ab nb c2, csb⟩ :: TB), OL ++ MM, _, rfl, rfl, rfl, HA1.out, HBF.out, HGA1.out, (fun r hr => by rcases List.mem_cons.1 hr with rfl | hr; exact HGB0.out; exact HGB1.out r hr), HJN.out, by rw [List.map_append, hp, ← HRV.out, List.append_assoc]; exact congrArg _ (HMR.out).symm, by rw [List.length_append, hl]; omega, HBK.out⟩
            case measure => simp [lenV]
          | false =>
            have hteq : (ta.toList == tb.toList) = !BG := by
              rw [← HTA.out, ← HTB.out, text_eqb]
              cases hb : BG with
              | true =>
                have hne : ka ≠ kb := fun e => by
                  have := HBG.out
                  rw [e, hb, strictT.irr] at this
                  cases this
                simp [hne]
              | false =>
                have := strictT.tot _ _ HBL.out (HBG.out.trans hb)
                rw [this]; simp
            go_upto_region 12 with (fail)
            refine wp_region_flow [none,none,none,none,none,none,none,none,none,none,none,none,none,none,none,none,none,none,none,none,none,none,none,none,none,none,none,none,none,none,none,none,none,none,none,none,none,none,none,none,none,none,none,none,none,none,none,none,none,none,none,none,none,none,none,none,none,none,none,none,none,none, some 9, some 0, some 1, some 2, some 3, some 4, some 5, some 6, some 7, some 8, none,none,none,none,none,none,none,none] (fun i => [u63, u64, u65, u66, u67, u68, u69, u70, u71, u62].getD i undef) [(fun v _ => v = .slice (some ⟨ba, offa, none⟩) (pa + 1) ca), (fun v _ => v = .pointer (some ⟨ba, offa, none⟩)), (fun v _ => v = .pointer (some ⟨ba, offa, none⟩)), (fun v _ => v = .string ta), (fun v _ => v = .slice (some ⟨bb, offb, none⟩) (pb + 1) cb), (fun v _ => v = .pointer (some ⟨bb, offb, none⟩)), (fun v _ => v = .pointer (some ⟨bb, offb, none⟩)), (fun v _ => v = .string tb), (fun v _ => v = .bool BG), (fun v _ => v = .bool BG)] (by kernel_rfl) (by kernel_rfl) rfl rfl rfl ?_ ?_ ?_
            · intro g hg v X Y hX hY hv
              simp only [List.mem_cons, List.not_mem_nil, or_false] at hg
              rcases hg with rfl | rfl | rfl | rfl | rfl | rfl | rfl | rfl | rfl | rfl
              all_goals first
                | exact hv
                | exact hv.kept hY
            · simp only [flowOps, and_true]
              refine ⟨?_,?_,?_,?_,?_,?_,?_,?_,?_,?_⟩
              · intro xs W hW hn
                simp only [flowAct, zwc, zwn]
                go_wp2_with (fail)
                exact ⟨rfl, _, rfl, Below.refl _ _, rfl⟩
              · intro xs W hW hn
                simp [flowNeeds, Region.binds] at hn
                simp only [flowAct, zwc, zwn]
                try simp only [hn]
                go_wp2_with (fail)
                exact ⟨rfl, _, rfl, Below.refl _ _, rfl⟩
              · intro xs W hW hn
                simp [flowNeeds, Region.binds] at hn
                simp only [flowAct, zwc, zwn]
                try simp only [hn]
                go_wp2_with (fail)
                exact ⟨rfl, _, rfl, Below.refl _ _, rfl⟩
              · intro xs W hW hn
                obtain ⟨a0, a1⟩ := HAW.out W (HBx.out.trans (hW.mono HBx.out.size))
                simp [flowNeeds, Region.binds] at hn
                simp only [flowAct, zwc, zwn]
                try simp only [hn]
                go_wp2_with (fail)
                exact ⟨rfl, _, rfl, Below.refl _ _, rfl⟩
              · intro xs W hW hn
                simp only [flowAct, zwc, zwn]
                go_wp2_with (fail)
                exact ⟨rfl, _, rfl, Below.refl _ _, rfl⟩
              · intro xs W hW hn
                simp [flowNeeds, Region.binds] at hn
                simp only [flowAct, zwc, zwn]
                try simp only [hn]
                go_wp2_with (fail)
                exact ⟨rfl, _, rfl, Below.refl _ _, rfl⟩
              · intro xs W hW hn
                simp [flowNeeds, Region.binds] at hn
                simp only [flowAct, zwc, zwn]
                try simp only [hn]
                go_wp2_with (fail)
                exact ⟨rfl, _, rfl, Below.refl _ _, rfl⟩
              · intro xs W hW hn
                obtain ⟨b0, b1⟩ := HBW.out W (HBx.out.trans (hW.mono HBx.out.size))
                simp [flowNeeds, Region.binds] at hn
                simp only [flowAct, zwc, zwn]
                try simp only [hn]
                go_wp2_with (fail)
                exact ⟨rfl, _, rfl, Below.refl _ _, rfl⟩
              · intro xs W hW hn
                simp [flowNeeds, Region.binds] at hn
                simp only [flowAct, zwc, zwn]
                try simp only [hn]
                go_wp2_with (fail)
                exact ⟨rfl, _, rfl, Below.refl _ _, rfl⟩
              · intro xs W hW hn
                simp [flowNeeds, Region.binds] at hn
                simp only [flowAct, zwc, zwn]
                try simp only [hn]
                go_wp2_with (fail)
                exact ⟨rfl, _, rfl, Below.refl _ _, rfl⟩
            · intro xs W hW hall
              simp only [flowAll, and_true, Nat.zero_add, Nat.reduceAdd] at hall
              obtain ⟨-,-,-,-,-,-,-,-,-, eL⟩ := hall
              simp only [flowAct, zwc, zwn]
              simp only [eL]
              have hbk := HBx.out.trans (hW.mono HBx.out.size)
              have hok := HOx.out.kept hW
              clear eL
              obtain ⟨WK, hWK⟩ : ∃ X, W = X := ⟨_, rfl⟩
              rw [hWK] at hbk hok ⊢
              clear hWK hW HBx HOx
              have HBx := Lib.hid hbk
              have HOx := Lib.hid hok
              clear hbk hok
              cases BG with
              | true =>
                have HMR := Lib.hid (mrg_gt opC (x := (ka, csa)) (y := (kb, csb)) (a := TA.map Rw.pr) (b := TB.map Rw.pr) HBL.out HBG.out)
                go_wp2_with (first
                  | (go_at_call 80; (with_reducible refine (mcopied_c (HB0.out.below HBx.out) (by omega) (HCN.out _ (fun r hr => by rw [List.mem_singleton] at hr; subst hr; exact HGB0.out)) h0 h1).mono ?_); rintro e9 w9 ⟨v9, MM, rfl, hpm, hom, hbm⟩
                     have HPM := Lib.hid hpm
                     have HOM := Lib.hid hom
                     have HB9 := Lib.hid (HBx.out.trans (hbm.mono HBx.out.size))
                     have HO9 := Lib.hid (HOx.out.kept hbm)
                     have HLT := Lib.hid (fun j (hj : j < OL.length) k hk => ((HOx.out.own j hj).1.lt k hk).2)
                     have HWS := Lib.hid HBx.out.size
                     obtain ⟨a9, c9, ev9, hat9⟩ := hom.at
                     subst ev9
                     have HAT9 := Lib.hid hat9
                     have HML := Lib.hid (show MM.length ≤ 1000000 by have e := congrArg List.length hpm; simp at e; omega)
                     clear hpm hom hbm hat9 HBx HOx)
                  | (at_builtin; refine wpList_append_rws rfl _ _ rfl (u := .slice an OL.length cn) rfl HO9.out.row rfl HAT9.out (by have := HOL.out; have := HML.out; omega) HB9.out.size ?_; intro v' w' ho' hg'
                     have hjoin := HO9.out.join (B2 := WK.heap.size) (fun j hj => HOM.out.own j hj) HOM.out.apart h0 HWS.out HLT.out ho' hg'
                     have hbk := HB9.out.grown hg' HB9.out.size (fun z e => (HO9.out.row.lt z e).1)
                     have HJN := Lib.hid hjoin
                     have HBK := Lib.hid hbk
                     clear hjoin hbk ho' hg'))
                go_roundw
                case rel =>
                  have hp : MM.map Rw.pr = [(kb, csb)] := HPM.out
                  have hl : MM.length = 1 := by have := congrArg List.length hp; simpa using this
                  exact ⟨_, _, _, (⟨ka, .slice aa na c1, csa⟩ :: TA), _, _, _, TB, OL ++ MM, _, rfl, rfl, rfl, HAF.out, HB1.out, (fun r hr => by rcases List.mem_cons.1 hr with rfl | hr; exact HGA0.out; exact HGA1.out r hr), HGB1.out, HJN.out, by rw [List.map_append, hp, ← HRV.out, List.append_assoc]; exact congrArg _ (HMR.out).symm, by rw [List.length_append, hl]; omega, HBK.out⟩
                case measure => simp [lenV]
              | false =>
                have HMR := Lib.hid (mrg_eq opC (x := (ka, csa)) (y := (kb, csb)) (a := TA.map Rw.pr) (b := TB.map Rw.pr) HBL.out HBG.out)
                obtain rfl : ka = kb := strictT.tot _ _ HBL.out HBG.out
                obtain rfl : ta = tb := HTA.out.symm.trans HTB.out
                have HJ := Lib.hid (fun W (h : Below w.heap.size w W) => HJN.out W h ka csa csb HGA0.out HGB0.out _ _ _ (HCA.out.below h) _ _ _ (HCB.out.below h))
                obtain ⟨Z, hZ⟩ : ∃ z, zipN csa csb csa.length = z := ⟨_, rfl⟩
                have HZE := Lib.hid (show opC csa csb = Z from hZ)
                have HZL := Lib.hid (show Z.length = n1 from by rw [← hZ, zipN_len]; exact HCN.out [⟨ka, .slice aa na c1, csa⟩] (fun r hr => by rw [List.mem_singleton] at hr; subst hr; exact HGA0.out) _ (List.mem_singleton.2 rfl))
                rw [hZ] at HJ
                simp only [HTA.out] at HJ
                clear hZ hteq
                go_upto_region 2 with (fail)
                have HGS := Lib.hid (JG.st (sl := .slice x n1 cap) (sa := .slice (some ⟨ba, offa, none⟩) (pa + 1) ca) (ra := .agg #[.string ta, .slice aa na c1]) (sb := .slice (some ⟨bb, offb, none⟩) (pb + 1) cb) (rb := .agg #[.string ta, .slice ab nb c2]) (pa := .pointer (some ⟨ba, offa, none⟩)) (pb := .pointer (some ⟨bb, offb, none⟩)) (base := WK.heap.size) (t := ta) (cs := Z))
                refine wp_region_inv [none,none,none,none,none,none,none,none, some 11, some 13, some 8, some 0, some 1, some 2, some 3, some 4, some 5, some 6, some 7, some 9, some 10, none,none,none,none,none,none,none,none,none,none,none,none,none,none,none,none,none,none,none,none,none,none,none,none,none,none,none,none,none,none,none,none,none,none,none,none,none,none,none,none,none,none,none,none,none,none,none,none,none,none,none,none,none,none,none,none,none,none,none] (fun i => [u11, u12, u13, u14, u15, u16, u17, u18, u10, u19, u20, u8, undef, u9].getD i undef) (LayG 11 1 30 #[.string ⟨#[]⟩, .slice none 0 0] (JG (.slice x n1 cap) (.slice (some ⟨ba, offa, none⟩) (pa + 1) ca) (.agg #[.string ta, .slice aa na c1]) (.slice (some ⟨bb, offb, none⟩) (pb + 1) cb) (.agg #[.string ta, .slice ab nb c2]) (.pointer (some ⟨ba, offa, none⟩)) (.pointer (some ⟨bb, offb, none⟩)) WK.heap.size ta Z) (fun _ => 9) WK) (by kernel_rfl) (by kernel_rfl) rfl rfl (fun LL hL => LayG.start fun i hi => hL i (Nat.lt_of_lt_of_le hi (by decide))) ?_ ?_
                · simp only [invOps, and_true]
                  refine ⟨?_,?_,?_,?_,?_,?_,?_,?_,?_,?_,?_,?_,?_,?_⟩
                  · intro LL xs W hI hL hn
                    simp only [flowAct, zwc, zwn]
                    go_wp2_with (fail)
                    exact ⟨rfl, _, rfl, hI.set HGS.out 0 (by decide) (Below.refl _ _) rfl⟩
                  · intro LL xs W hI hL hn
                    simp only [flowAct, zwc, zwn]
                    go_wp2_with (fail)
                    exact ⟨rfl, _, rfl, hI.set HGS.out 1 (by decide) (Below.refl _ _) rfl⟩
                  · intro LL xs W hI hL hn
                    simp [invNeeds, Region.binds] at hn
                    have e1 : xs 1 = .slice (some ⟨ba, offa, none⟩) (pa + 1) ca := hI.2.1 1 (by decide) (by simp only [hn])
                    simp only [flowAct, zwc, zwn]
                    simp only [e1]
                    go_wp2_with (fail)
                    exact ⟨rfl, _, rfl, hI.set HGS.out 2 (by decide) (Below.refl _ _) rfl⟩
                  · intro LL xs W hI hL hn
                    obtain ⟨a0, a1⟩ := HAW.out W (HBx.out.trans (hI.below.mono HBx.out.size))
                    simp [invNeeds, Region.binds] at hn
                    have e2 : xs 2 = .pointer (some ⟨ba, offa, none⟩) := hI.2.1 2 (by decide) (by simp only [hn])
                    simp only [flowAct, zwc, zwn]
                    simp only [e2]
                    go_wp2_with (fail)
                    exact ⟨rfl, _, rfl, hI.set HGS.out 3 (by decide) (Below.refl _ _) rfl⟩
                  · intro LL xs W hI hL hn
                    simp only [flowAct, zwc, zwn]
                    go_wp2_with (fail)
                    exact ⟨rfl, _, rfl, hI.set HGS.out 4 (by decide) (Below.refl _ _) rfl⟩
                  · intro LL xs W hI hL hn
                    simp [invNeeds, Region.binds] at hn
                    have e4 : xs 4 = .slice (some ⟨bb, offb, none⟩) (pb + 1) cb := hI.2.1 4 (by decide) (by simp only [hn])
                    simp only [flowAct, zwc, zwn]
                    simp only [e4]
                    go_wp2_with (fail)
                    exact ⟨rfl, _, rfl, hI.set HGS.out 5 (by decide) (Below.refl _ _) rfl⟩
                  · intro LL xs W hI hL hn
                    obtain ⟨b0, b1⟩ := HBW.out W (HBx.out.trans (hI.below.mono HBx.out.size))
                    simp [invNeeds, Region.binds] at hn
                    have e5 : xs 5 = .pointer (some ⟨bb, offb, none⟩) := hI.2.1 5 (by decide) (by simp only [hn])
                    simp only [flowAct, zwc, zwn]
                    simp only [e5]
                    go_wp2_with (fail)
                    exact ⟨rfl, _, rfl, hI.set HGS.out 6 (by decide) (Below.refl _ _) rfl⟩
                  · intro LL xs W hI hL hn
                    simp [invNeeds, Region.binds] at hn
                    have e0 : xs 0 = .slice x n1 cap := hI.2.1 0 (by decide) (by simp only [hn])
                    have e3 : xs 3 = .agg #[.string ta, .slice aa na c1] := hI.2.1 3 (by decide) (by simp only [hn])
                    have e6 : xs 6 = .agg #[.string ta, .slice ab nb c2] := hI.2.1 6 (by decide) (by simp only [hn])
                    simp only [flowAct, zwc, zwn]
                    simp only [e0, e3, e6]
                    go_wp2_with (go_at_call 81; (with_reducible refine (HJ.out _ (HBx.out.trans (hI.below.mono HBx.out.size))).mono ?_); rintro e9 w9 ⟨v9, rfl, ho9, hb9⟩; obtain ⟨a9, c9, rfl, -⟩ := ho9.cls; simp only [HTA.out])
                    exact ⟨rfl, _, rfl, hI.set HGS.out 7 (by decide) hb9 ⟨_, _, rfl, ho9.mono hI.below.size⟩⟩
                  · intro LL xs W hI hL hn
                    simp [invNeeds, Region.binds] at hn
                    obtain ⟨a9, c9, e7, ho9⟩ : JTup WK.heap.size ta Z (xs 7) W := hI.2.1 7 (by decide) (by simp only [hn])
                    simp only [flowAct, zwc, zwn]
                    simp only [e7]
                    go_wp2_with (fail)
                    exact ⟨rfl, _, rfl, hI.set HGS.out 8 (by decide) (Below.refl _ _) ⟨_, _, rfl, ho9⟩⟩
                  · intro LL xs W hI hL hn
                    simp [invNeeds, Region.binds] at hn
                    obtain ⟨a9, c9, e8, ho9⟩ : JTup WK.heap.size ta Z (xs 8) W := hI.2.1 8 (by decide) (by simp only [hn])
                    simp only [flowAct, zwc, zwn]
                    simp only [e8]
                    go_wp2_with (fail)
                    exact ⟨rfl, _, rfl, hI.set HGS.out 9 (by decide) (Below.refl _ _) ⟨_, _, rfl, ho9⟩⟩
                  · intro LL xs W hI hL hn
                    simp [invNeeds, Region.binds] at hn
                    obtain ⟨a9, c9, e8, ho9⟩ : JTup WK.heap.size ta Z (xs 8) W := hI.2.1 8 (by decide) (by simp only [hn])
                    simp only [flowAct, zwc, zwn]
                    simp only [e8]
                    go_wp2_with (fail)
                    exact ⟨rfl, _, rfl, hI.set HGS.out 10 (by decide) (Below.refl _ _) rfl⟩
                  · intro LL xs W hI hL hn
                    simp only [flowAct, zwc, zwn]
                    go_wp2_with (fail)
                    exact ⟨rfl, _, rfl, hI.alloc HGS.out 0 (by decide) rfl hL⟩
                  · intro LL xs W hI hL hn
                    simp [invNeeds, Region.binds] at hn
                    obtain ⟨hk, hv⟩ : LL 11 = true ∧ LL 9 = true := by simp only [hn, and_self]
                    obtain ⟨g5, cs5, eg, lg, hgc, hz5⟩ := hI.2.2.1 0 (by decide) hk
                    rw [if_neg (by rw [show LL (11 + 1 + 0) = false from hL]; decide)] at hz5
                    subst hz5
                    have hg9 : RowV WK.heap.size ta Z (xs 9) W := hI.2.1 9 (by decide) hv
                    obtain ⟨a9, c9, e9, ho9⟩ := hg9
                    have e1 : xs 11 = .pointer (some ⟨g5, 0, none⟩) := eg
                    obtain ⟨p0, p1, pfz⟩ := row_cells hgc
                    simp only [flowAct, zwc, zwn]
                    simp only [e9, e1]
                    go_wp2_with (fail)
                    exact ⟨rfl, undef, rfl, hI.store HGS.out 0 (by decide) rfl rfl hk eg (cs := #[.string ta, .slice a9 Z.length c9]) ⟨_, _, rfl, ho9⟩ (wrote_row hgc ta (.slice a9 Z.length c9)) undef⟩
                  · intro LL xs W hI hL hn
                    simp [invNeeds, Region.binds] at hn
                    have e10 : xs 10 = .int .i64 0 := hI.2.1 10 (by decide) (by simp only [hn])
                    simp only [flowAct, zwc, zwn]
                    simp only [e10]
                    go_wp2_with (fail)
                    exact ⟨rfl, _, rfl, hI.other 13 (by decide) _⟩
                · intro LL xs W hI hall
                  obtain ⟨hW, -, hP, -,-⟩ := hI
                  obtain ⟨gx, cs7, e7, l7, h7, g7⟩ := hP 0 (by decide) (hall 11 (by decide))
                  rw [if_pos (hall (11 + 1 + 0) (by decide))] at g7
                  obtain ⟨a9, c9, g8, ho9⟩ := (show RowV WK.heap.size ta Z (.agg cs7) W from g7)
                  injection g8 with g8
                  subst g8
                  clear g7
                  replace e7 : xs 11 = _ := e7
                  simp only [flowAct, zwc, zwn]
                  simp only [e7]
                  have hbk := HBx.out.trans (hW.mono HBx.out.size)
                  have HLT := Lib.hid (fun j (hj : j < OL.length) k hk => ((HOx.out.own j hj).1.lt k hk).2)
                  have HWS := Lib.hid HBx.out.size
                  have hok := HOx.out.kept hW
                  have HOC := Lib.hid ho9
                  have HH7 := Lib.hid h7
                  obtain ⟨r0, r1, -⟩ := row_cells h7
                  clear hP hall e7 ho9 h7 l7 hW HGS HBx HOx
                  have HBx := Lib.hid hbk
                  have HOx := Lib.hid hok
                  clear hbk hok
                  have halx := fun W => alloc_below W (.cells #[.string ta, .slice a9 Z.length c9] 30)
                  have HALX := Lib.hid halx
                  clear halx
                  go_wp2_with (at_builtin; refine wpList_append_rwm rfl _ _ rfl (u := .slice an OL.length cn) rfl (HOx.out.kept (HALX.out W)).row HTA.out Z rfl (heap_alloc_new W _) (by have := HOL.out; omega) (Nat.le_trans HBx.out.size (HALX.out W).size) ?_; intro v' w' ho' hg'; have hpush := (HOx.out.kept (HALX.out W)).push0 HZL.out (HOC.out.kept (HALX.out W)) h0 HWS.out HLT.out ho' hg'; have hbk := (HBx.out.trans ((HALX.out W).mono HBx.out.size)).grown hg' (Nat.le_trans HBx.out.size (HALX.out W).size) (fun z e => ((HOx.out.kept (HALX.out W)).row.lt z e).1); have HPU := Lib.hid hpush; have HBK := Lib.hid hbk; clear hpush hbk ho' hg' r0 r1)
                  go_upto_region 4 with (fail)
                  go_quiet (fail)
                  have HDW := Lib.hid (below_drewN (Below.refl w'.heap.size w') nq)
                  have HBy := Lib.hid (HBK.out.trans (HDW.out.mono HBK.out.size))
                  have HOy := Lib.hid (HPU.out.kept HDW.out)
                  go_wp2
                  go_roundw
                  case rel => exact ⟨_, _, _, TA, _, _, _, TB, OL ++ [⟨ka, .slice a9 Z.length c9, Z⟩], _, rfl, rfl, rfl, HA1.out, HB1.out, HGA1.out, HGB1.out, HOy.out, by rw [List.map_append, ← HRV.out, List.append_assoc]; refine congrArg _ ?_; refine Eq.trans ?_ HMR.out.symm; rw [HZE.out]; rfl, by rw [List.length_append]; simp only [List.length_singleton]; omega, HBy.out⟩
                  case measure => simp [lenV]; omega

end Go.Proofs.Ytidbjmkfmfojdaa
end

section
namespace Go.Proofs.Ytidbjmkfmfojdaa
open Go.RowKit Go Go.Sort
set_option linter.unusedVariables false
set_option maxRecDepth 20000

/-- A change as it stands in memory: its parts, its slice of writes, and these. -/
structure Cg where
  site : Int
  seq : Int
  n : Int
  s : Int
  a : Int
  b : Int
  u : Value
  ws : List Wr
def Cg.zero : Cg := ⟨0, 0, 0, 0, 0, 0, .slice none 0 0, []⟩
def Cg.arr (c : Cg) : Array Value := #[.int .i64 c.site, .int .i64 c.seq, .int .i64 c.n, .int .i64 c.s, .int .i64 c.a, .int .i64 c.b, c.u]
def Cg.ch (c : Cg) : Chg := ⟨c.site, c.seq, c.n, c.s, c.a, c.b, c.ws⟩
theorem cg_size (c : Cg) : c.arr.size = 7 := rfl
/-- Changes as they lie in memory, each with its writes. -/
def ChsAt (W : World) (a : Option Addr) (m cap : Nat) (L : List Cg) : Prop := Ls 7 Cg.arr Cg.zero W a m cap L ∧ ∀ j, j < m → ∃ a' c, (L.getD j Cg.zero).u = .slice a' (L.getD j Cg.zero).ws.length c ∧ Wrs W a' (L.getD j Cg.zero).ws.length c (L.getD j Cg.zero).ws ∧ WShort (L.getD j Cg.zero).ws
theorem ChsAt.below {w w' : World} {a : Option Addr} {m cap : Nat} {L : List Cg} (h : ChsAt w a m cap L) (hb : Below w.heap.size w w') : ChsAt w' a m cap L :=
  ⟨h.1.below hb, fun j hj => by obtain ⟨a', c, e, hc, hx⟩ := h.2 j hj; exact ⟨a', c, e, hc.below hb, hx⟩⟩
theorem ChsAt.place {w : World} {a : Option Addr} {m cap : Nat} {L : List Cg} (h : ChsAt w a m cap L) {k : Nat} (hk : k < m) : ∃ b off a' n' c', a = some ⟨b, off, none⟩ ∧ (L.getD k Cg.zero).u = .slice a' n' c' ∧ n' = (L.getD k Cg.zero).ws.length ∧ Wrs w a' n' c' (L.getD k Cg.zero).ws ∧ WShort (L.getD k Cg.zero).ws ∧
    ∀ W, Below w.heap.size w W → W.cell? ⟨b, off + k * 7, none⟩ = some (.int .i64 (L.getD k Cg.zero).site) ∧ W.cell? ⟨b, off + k * 7 + 1, none⟩ = some (.int .i64 (L.getD k Cg.zero).seq) ∧ W.cell? ⟨b, off + k * 7 + 2, none⟩ = some (.int .i64 (L.getD k Cg.zero).n) ∧ W.cell? ⟨b, off + k * 7 + 3, none⟩ = some (.int .i64 (L.getD k Cg.zero).s) ∧
      W.cell? ⟨b, off + k * 7 + 4, none⟩ = some (.int .i64 (L.getD k Cg.zero).a) ∧ W.cell? ⟨b, off + k * 7 + 5, none⟩ = some (.int .i64 (L.getD k Cg.zero).b) ∧ W.cell? ⟨b, off + k * 7 + 6, none⟩ = some (.slice a' n' c') := by
  obtain ⟨b, off, e, hat⟩ := h.1.at hk
  obtain ⟨a', c', eu, hc, hx⟩ := h.2 k hk
  exact ⟨b, off, a', _, c', e, eu, rfl, hc, hx, fun W hb => ⟨hat W hb 0 _ rfl, hat W hb 1 _ rfl, hat W hb 2 _ rfl, hat W hb 3 _ rfl, hat W hb 4 _ rfl, hat W hb 5 _ rfl, (hat W hb 6 (L.getD k Cg.zero).u rfl).trans (by rw [eu])⟩⟩
theorem ChsAt.drop {W : World} {a a' : Option Addr} {n cap cap' q : Nat} {L : List Cg} (h : ChsAt W a n cap L) (hl : Ls 7 Cg.arr Cg.zero W a' (n - q) cap' (L.drop q)) (hq : q ≤ n) : ChsAt W a' (n - q) cap' (L.drop q) :=
  ⟨hl, fun j hj => by
    have e : (L.drop q).getD j Cg.zero = L.getD (q + j) Cg.zero := by simp [List.getD_eq_getElem?_getD]
    rw [e]
    exact h.2 (q + j) (by omega)⟩
theorem ChsAt.take {W : World} {a : Option Addr} {n cap q : Nat} {L : List Cg} (h : ChsAt W a n cap L) (hq : q ≤ n) : ChsAt W a q cap (L.take q) :=
  ⟨h.1.take hq, fun j hj => by
    have e : (L.take q).getD j Cg.zero = L.getD j Cg.zero := by rw [List.getD_eq_getElem?_getD, List.getD_eq_getElem?_getD, List.getElem?_take_of_lt hj]
    rw [e]
    exact h.2 j (by omega)⟩
theorem Try.infoCg : (Try.prog.info? 91).map (fun i => (i.zero, i.size, i.bytes)) = some (some (.agg #[.int .i64 0, .int .i64 0, .int .i64 0, .int .i64 0, .int .i64 0, .int .i64 0, .slice none 0 0]), 7, 72) := by kernel_rfl
theorem slice_cg {W : World} {a : Option Addr} {n cap : Nat} {l : List Cg} (h : Ls 7 Cg.arr Cg.zero W a n cap l) {q : Nat} (hq : q ≤ n) :
    ∃ a', (∀ W', (Instr.slice 88 (.slice a n cap) (some (.int .i64 (q : Int))) none none).run Try.prog W' = .ok (.slice a' (n - q) (cap - q)) W') ∧
      (∀ W', (Instr.sliceAt 88 (.slice a n cap) (some (.int .i64 (q : Int))) none none).run Try.prog W' = .ok (.slice a' (n - q) (cap - q)) W') ∧ Ls 7 Cg.arr Cg.zero W a' (n - q) (cap - q) (l.drop q) := by
  have hle := h.le
  have he : Try.prog.elem 88 = 91 := by kernel_rfl
  obtain ⟨i0, hi, hz0, hz1, hz2⟩ := info_parts Try.infoCg
  have key : ∀ W', (Instr.slice 88 (.slice a n cap) (some (.int .i64 (q : Int))) none none).run Try.prog W' = .ok (.slice (if cap = q then a else a.map (fun x => x.add (q * 7))) (n - q) (cap - q)) W' := fun W' => by
    rw [run_slice_l W' 88 a n cap (by kernel_rfl) .i64 (q : Int) (by omega) (by omega), he]
    have hsz : (sizeOf 91).run Try.prog W' = .ok 7 W' := by simp [sizeOf, typeInfo, hi, hz1, go_sem]
    rw [hsz]
    simp only [Result.andThen_ok, sliced, Int.toNat_natCast]
  refine ⟨_, key, fun W' => ?_, h.drop hq⟩
  rw [run_sliceAt_slice _ _ _ _ _ _ (by kernel_rfl)]
  exact key W'
theorem slice_cgto {W : World} {a : Option Addr} {n cap : Nat} {l : List Cg} (h : Ls 7 Cg.arr Cg.zero W a n cap l) {q : Nat} (hq : q ≤ n) :
    (∀ W', (Instr.slice 88 (.slice a n cap) none (some (.int .i64 (q : Int))) none).run Try.prog W' = .ok (.slice a q cap) W') ∧
      (∀ W', (Instr.sliceAt 88 (.slice a n cap) none (some (.int .i64 (q : Int))) none).run Try.prog W' = .ok (.slice a q cap) W') := by
  have hle := h.le
  have he : Try.prog.elem 88 = 91 := by kernel_rfl
  obtain ⟨i0, hi, hz0, hz1, hz2⟩ := info_parts Try.infoCg
  have key : ∀ W', (Instr.slice 88 (.slice a n cap) none (some (.int .i64 (q : Int))) none).run Try.prog W' = .ok (.slice a q cap) W' := fun W' => by
    have hsz : (sizeOf 91).run Try.prog W' = .ok 7 W' := by simp [sizeOf, typeInfo, hi, hz1, go_sem]
    rw [run_slice_h W' 88 a n cap (by kernel_rfl) .i64 (q : Int) (by omega) (by omega), Int.toNat_natCast, he, hsz]
    simp only [Result.andThen_ok, sliced, Nat.zero_mul, Nat.sub_zero]
    cases a <;> simp [Addr.add]
  refine ⟨key, fun W' => ?_⟩
  rw [run_sliceAt_slice _ _ _ _ _ _ (by kernel_rfl)]
  exact key W'
theorem chg_few {gs : List Grp} {c : Chg} (h : c.err gs = 0) : (c.rows gs).length ≤ 8 := by
  have h9 := (head_ok (ch_inv h).2.1).2.2.2.2.2.2.2.2
  exact Nat.le_trans (wrow_few gs c.n c.s c.a c.b c.ws c.ws.length) h9
theorem made_few {gs : List Grp} : ∀ (n : Nat) (cs : List Chg), cs.length ≤ n → (∀ c ∈ cs, c.err gs = 0) → (madeK Op.bytesLess opC (cs.map (Chg.rows gs))).length ≤ 8 * cs.length
  | n, [], _, _ => by rw [List.map_nil, made_nil]; simp
  | n, [c], _, h => by
    rw [List.map_cons, List.map_nil, made_one]
    have := chg_few (h c (List.mem_cons_self ..))
    simp; omega
  | 0, c :: d :: cs, hn, _ => by simp at hn
  | n + 1, c :: d :: cs, hn, h => by
    have h2 : 2 ≤ (c :: d :: cs).length := by simp
    generalize (c :: d :: cs) = ds at *
    rw [made_two opC (by rw [List.length_map]; exact h2), List.length_map, ← List.map_take, ← List.map_drop]
    have e1 := made_few n (ds.take (ds.length / 2)) (by rw [List.length_take]; omega) fun x hx => h x (List.mem_of_mem_take hx)
    have e2 := made_few n (ds.drop (ds.length / 2)) (by rw [List.length_drop]; omega) fun x hx => h x (List.mem_of_mem_drop hx)
    have e3 := mrg_few (lt := Op.bytesLess) opC _ (madeK Op.bytesLess opC ((ds.take (ds.length / 2)).map (Chg.rows gs))) (madeK Op.bytesLess opC ((ds.drop (ds.length / 2)).map (Chg.rows gs))) (Nat.le_refl _)
    rw [List.length_take] at e1
    rw [List.length_drop] at e2
    omega
theorem st_few {gs : List Grp} (cs : List Chg) : (stS gs cs).1.length ≤ 8 * cs.length := by
  unfold stS
  split
  · simp
  · split
    · rename_i h
      exact made_few _ cs (Nat.le_refl _) fun c hc => by simpa using List.all_eq_true.1 h c hc
    · simp
theorem st_one {gs : List Grp} (hp : pgoodS gs = 0) (c : Chg) : chrowsS gs c.site c.seq c.n c.s c.a c.b c.ws = stS gs [c] := by
  by_cases h : c.err gs = 0
  · rw [st_ok hp (fun x hx => by rw [List.mem_singleton] at hx; subst hx; exact h), List.map_cons, List.map_nil, made_one]
    exact chrows_ok h
  · rw [st_bad hp (List.mem_singleton.2 rfl) h, chrows_no h, chgood_err hp h]
theorem st_zero {gs : List Grp} (hp : pgoodS gs = 0) : stS gs [] = ([], 0) := by
  rw [st_ok hp (fun x hx => by cases hx), List.map_nil, made_nil]
theorem st_err {gs : List Grp} (hp : pgoodS gs = 0) {cs : List Chg} (h : ¬ (stS gs cs).2 = 0) : stS gs cs = ([], 120) := by
  unfold stS at h ⊢
  rw [if_neg (not_not_intro hp)] at h ⊢
  split
  · rename_i ha; rw [if_pos ha] at h; exact absurd rfl h
  · rfl
/-- The state of both halves. -/
theorem st_halves {gs : List Grp} (hp : pgoodS gs = 0) {cs : List Chg} (h2 : 2 ≤ cs.length) :
    (¬ (stS gs (cs.take (cs.length / 2))).2 = 0 → stS gs cs = ([], 120)) ∧ (¬ (stS gs (cs.drop (cs.length / 2))).2 = 0 → stS gs cs = ([], 120)) ∧
    ((stS gs (cs.take (cs.length / 2))).2 = 0 → (stS gs (cs.drop (cs.length / 2))).2 = 0 → stS gs cs = (mrg Op.bytesLess opC (stS gs (cs.take (cs.length / 2))).1 (stS gs (cs.drop (cs.length / 2))).1, 0)) := by
  have key : ∀ ds : List Chg, ¬ (stS gs ds).2 = 0 → ∃ c ∈ ds, ¬ c.err gs = 0 := fun ds h => by
    apply Classical.byContradiction
    intro hn
    apply h
    rw [st_ok hp fun c hc => Classical.byContradiction fun hb => hn ⟨c, hc, hb⟩]
  refine ⟨fun h => ?_, fun h => ?_, fun h1 h3 => ?_⟩
  · obtain ⟨c, hc, hb⟩ := key _ h
    exact st_bad hp (List.mem_of_mem_take hc) hb
  · obtain ⟨c, hc, hb⟩ := key _ h
    exact st_bad hp (List.mem_of_mem_drop hc) hb
  · obtain ⟨-, a1⟩ := st_inv h1
    obtain ⟨-, a2⟩ := st_inv h3
    have ha : ∀ c ∈ cs, c.err gs = 0 := fun c hc => by
      rw [← List.take_append_drop (cs.length / 2) cs] at hc
      exact (List.mem_append.1 hc).elim (a1 c) (a2 c)
    rw [st_ok hp a1, st_ok hp a2, st_ok hp ha, made_two opC (by rw [List.length_map]; exact h2), List.length_map, List.map_take, List.map_drop]
theorem OwnRw.mono {W : World} {B B' n1 : Nat} {v : Value} {L : List Rw} (h : OwnRw W B n1 v L) (hB : B' ≤ B) : OwnRw W B' n1 v L := ⟨h.row.mono hB, fun j hj => ⟨(h.own j hj).1.mono hB, (h.own j hj).2⟩, h.apart⟩
/-- What State tells. -/
def StPost (r : List Rp × Int) (n1 : Nat) (w : World) (e : Ending) (w' : World) : Prop := ∃ v NN, e = .returned (.tuple #[v, .int .i64 r.2]) ∧ NN.map Rw.pr = r.1 ∧ OwnRw w' w.heap.size n1 v NN ∧ Below w.heap.size w w'

set_option maxRecDepth 100000 in
set_option maxHeartbeats 6400000 in
theorem made_c {w : World} {x : Option Addr} {n1 cap : Nat} {gs : List Grp} (hg : Grs w x n1 cap gs) (hs : ∀ g ∈ gs, g.1.length ≤ 9223372036854775807) (hp : pgoodS gs = 0) :
    ∀ (n : Nat) (W : World) (a : Option Addr) (m cp : Nat) (L : List Cg), m ≤ n → Below w.heap.size w W → ChsAt W a m cp L → m ≤ 100000 → Calls Try.prog 71 #[.slice x n1 cap, .slice a m cp] W (StPost (stS gs (L.map Cg.ch)) n1 W) := by
  have hgl := hg.len
  have hp4 := pgood_len hp
  have hpos := pgood_pos hp
  intro n
  induction n with
  | zero =>
    intro W a m cp L hmn hW hl hm
    obtain rfl : m = 0 := by omega
    have hL : L = [] := List.eq_nil_of_length_eq_zero hl.1.len
    subst hL
    have HRR := Lib.hid (st_zero hp)
    clear hl hg hs
    go_enter Try.func71, Try.ntmps71
    go_wp2
    go_ret2
    exact ⟨.slice none 0 0, [], by show _ = Ending.returned (.tuple #[_, .int .i64 (stS gs []).2]); rw [HRR.out]; rfl, by show ([] : List Rp) = (stS gs []).1; rw [HRR.out], OwnRw.nil _ _ _, Below.refl _ _⟩
  | succ n ih =>
    intro W a m cp L hmn hW hl hm
    have hll := hl.1.len
    have hle := hl.1.le
    have hmx := hl.1.max
    by_cases h0 : m = 0
    · exact ih W a m cp L (by omega) hW hl hm
    · by_cases h1 : m = 1
      · subst h1
        obtain ⟨c, rfl⟩ : ∃ c, L = [c] := by
          cases L with
          | nil => simp at hll
          | cons c T => cases T with
            | nil => exact ⟨c, rfl⟩
            | cons d T => simp at hll
        obtain ⟨b, off, a', n', c', rfl, eu, en, hw, hx, hat⟩ := hl.place (k := 0) (by omega)
        simp only [List.getD_cons_zero, Nat.zero_mul, Nat.add_zero] at eu en hw hx hat
        have hr := chrows_c (hg.below hW) hs hw hx c.site c.seq c.n c.s c.a c.b
        have he := st_one hp c.ch
        have he : chrowsS gs c.site c.seq c.n c.s c.a c.b c.ws = stS gs [c.ch] := he
        rw [he] at hr
        have HR := Lib.hid hr
        obtain ⟨p0, p1, p2, p3, p4, p5, p6⟩ := hat W (Below.refl _ _)
        obtain ⟨site, seq, n2, s, aa, bb, u, ws⟩ := c
        simp only at p0 p1 p2 p3 p4 p5 p6 HR
        obtain ⟨RV, hRV⟩ : ∃ z, stS gs [(⟨site, seq, n2, s, aa, bb, u, ws⟩ : Cg).ch] = z := ⟨_, rfl⟩
        have HRV := Lib.hid (show stS gs ([(⟨site, seq, n2, s, aa, bb, u, ws⟩ : Cg)].map Cg.ch) = RV from hRV)
        rw [hRV] at HR
        clear hat hr he hRV eu en hw hx hl hll ih hg hs
        go_enter Try.func71, Try.ntmps71
        go_wp2_with (go_at_call 94; (with_reducible refine HR.out.mono ?_); rintro e9 w9 ⟨v9, N9, rfl, ho9, hp9, hb9⟩)
        go_ret2
        exact ⟨_, N9, by rw [HRV.out]; rfl, by rw [HRV.out]; exact hp9, ho9, hb9⟩
      · have h2 : 2 ≤ m := by omega
        obtain ⟨q, hq⟩ : ∃ q, m / 2 = q := ⟨_, rfl⟩
        have hqm : q ≤ m := by omega
        have hq1 : 1 ≤ q := by omega
        have hq2 : m - q ≤ n := by omega
        have hq3 : q ≤ n := by omega
        obtain ⟨a2, hs1, hs2, hs3⟩ := slice_cg hl.1 hqm
        obtain ⟨ht1, ht2⟩ := slice_cgto hl.1 hqm
        have H1 := Lib.hid (ih W a q cp (L.take q) hq3 hW (hl.take hqm) (by omega))
        have H2 := Lib.hid (fun W' (h : Below W.heap.size W W') => ih W' a2 (m - q) (cp - q) (L.drop q) hq2 (hW.trans (h.mono hW.size)) ((hl.drop hs3 hqm).below h) (by omega))
        have hh := st_halves hp (cs := L.map Cg.ch) (by rw [List.length_map]; omega)
        rw [List.length_map, hll, hq, ← List.map_take, ← List.map_drop] at hh
        obtain ⟨e1, e2, e3⟩ := hh
        have f1 := st_few (gs := gs) ((L.take q).map Cg.ch)
        have f2 := st_few (gs := gs) ((L.drop q).map Cg.ch)
        rw [List.length_map, List.length_take, hll] at f1
        rw [List.length_map, List.length_drop, hll] at f2
        have k1 := fun (h : (stS gs ((L.take q).map Cg.ch)).2 = 0) => (st_st h).good
        have k2 := fun (h : (stS gs ((L.drop q).map Cg.ch)).2 = 0) => (st_st h).good
        have x1 := fun (h : ¬ (stS gs ((L.take q).map Cg.ch)).2 = 0) => st_err hp h
        have x2 := fun (h : ¬ (stS gs ((L.drop q).map Cg.ch)).2 = 0) => st_err hp h
        obtain ⟨⟨R1, E1⟩, hR1⟩ : ∃ z, stS gs ((L.take q).map Cg.ch) = z := ⟨_, rfl⟩
        obtain ⟨⟨R2, E2⟩, hR2⟩ : ∃ z, stS gs ((L.drop q).map Cg.ch) = z := ⟨_, rfl⟩
        obtain ⟨RV, hRV⟩ : ∃ z, stS gs (L.map Cg.ch) = z := ⟨_, rfl⟩
        rw [hR1] at e1 e3 f1 k1 x1 H1
        rw [hR2] at e2 e3 f2 k2 x2
        simp only [hR2] at H2
        rw [hRV] at e1 e2 e3 ⊢
        simp only at e1 e2 e3 f1 f2 k1 k2 x1 x2
        have HE1 := Lib.hid e1
        have HE2 := Lib.hid e2
        have HE3 := Lib.hid e3
        have HF1 := Lib.hid f1
        have HF2 := Lib.hid f2
        have HK1 := Lib.hid k1
        have HK2 := Lib.hid k2
        have HX1 := Lib.hid x1
        have HX2 := Lib.hid x2
        have HQ := Lib.hid hq
        have HG := Lib.hid hg
        have HS := Lib.hid hs
        have HW := Lib.hid hW
        have hqt : Int.tdiv (m : Int) 2 = ((q : Nat) : Int) := by rw [← hq]; exact (Int.ofNat_tdiv m 2).symm
        have hm0 : ((m : Int) == 0) = false := by simp; omega
        have hm1 : ((m : Int) == 1) = false := by simp; omega
        clear e1 e2 e3 f1 f2 k1 k2 x1 x2 hR1 hR2 hRV hs3 hl hll ih hq hg hs hW h0 h1 h2 hq1 hq2 hq3
        go_enter Try.func71, Try.ntmps71
        go_upto_region 8 with (go_at_call 71; (with_reducible refine H1.out.mono ?_); rintro e9 w1 ⟨v1, N1, rfl, hp1, ho1, hb1⟩)
        have HP1 := Lib.hid hp1
        have HO1 := Lib.hid ho1
        have HB1 := Lib.hid hb1
        clear hp1 ho1 hb1
        by_cases hz1 : E1 = 0
        · subst hz1
          go_upto_region 11 with (go_at_call 71; (with_reducible refine (H2.out _ HB1.out).mono ?_); rintro e9 w2 ⟨v2, N2, rfl, hp2, ho2, hb2⟩)
          have HP2 := Lib.hid hp2
          have HO2 := Lib.hid (ho2)
          have HO3 := Lib.hid (HO1.out.kept hb2)
          have HB2 := Lib.hid (HB1.out.trans (hb2.mono HB1.out.size))
          have HX := Lib.hid hb2
          clear hp2 ho2 hb2
          by_cases hz2 : E2 = 0
          · subst hz2
            have HRR := Lib.hid (HE3.out (by first | rfl | trivial) (by first | rfl | trivial))
            obtain ⟨a3, c3, ev3, h3⟩ := HO3.out.at
            obtain ⟨a4, c4, ev4, h4⟩ := HO2.out.at
            subst ev3 ev4
            have hg1 : ∀ r ∈ N1, rgoodS gs r.k r.cs = 0 := fun r hr => HK1.out (by first | rfl | trivial) r.pr (by rw [← HP1.out]; exact List.mem_map_of_mem hr)
            have hg2 : ∀ r ∈ N2, rgoodS gs r.k r.cs = 0 := fun r hr => HK2.out (by first | rfl | trivial) r.pr (by rw [← HP2.out]; exact List.mem_map_of_mem hr)
            have hN1 : N1.length ≤ 8 * m := by
              have e := congrArg List.length HP1.out
              rw [List.length_map] at e
              have := HF1.out
              omega
            have hN2 : N2.length ≤ 8 * (m - q) := by
              have e := congrArg List.length HP2.out
              rw [List.length_map] at e
              have := HF2.out
              omega
            have hN1b : N1.length ≤ 8 * q := by
              have e := congrArg List.length HP1.out
              rw [List.length_map] at e
              have := HF1.out
              omega
            have hmc := mmerged_c (HG.out.below (HW.out.trans (HB2.out.mono HW.out.size))) HS.out h3 h4 hg1 hg2 (by omega) (by omega) (by omega)
            rw [HP1.out, HP2.out] at hmc
            have HM := Lib.hid hmc
            clear h3 h4 hg1 hg2 hN1 hN2 hN1b hmc
            go_wp2_with (go_at_call 57; (with_reducible refine HM.out.mono ?_); rintro e9 w3 ⟨v3, N3, rfl, hp3, ho3, hb3⟩)
            go_ret2
            exact ⟨_, N3, by rw [HRR.out]; rfl, by rw [HRR.out]; exact hp3, ho3.mono (Nat.le_trans HB1.out.size HX.out.size), HB2.out.trans (hb3.mono HB2.out.size)⟩
          · have HRR := Lib.hid (HE2.out hz2)
            have hz3 := HX2.out hz2
            injection hz3 with hz3 hz4
            subst hz4
            go_wp2
            go_ret2
            exact ⟨_, [], by rw [HRR.out]; rfl, by rw [HRR.out]; rfl, OwnRw.nil _ _ _, HB2.out⟩
        · have HRR := Lib.hid (HE1.out hz1)
          have hz3 := HX1.out hz1
          injection hz3 with hz3 hz4
          subst hz4
          go_wp2
          go_ret2
          exact ⟨_, [], by rw [HRR.out]; rfl, by rw [HRR.out]; rfl, OwnRw.nil _ _ _, HB1.out⟩

set_option maxRecDepth 100000 in
set_option maxHeartbeats 3200000 in
theorem mstate_c {w : World} {x a : Option Addr} {n1 cap m cp : Nat} {gs : List Grp} {L : List Cg} (hg : Grs w x n1 cap gs) (hs : ∀ g ∈ gs, g.1.length ≤ 9223372036854775807) (hl : ChsAt w a m cp L) (hm : m ≤ 100000) :
    Calls Try.prog 44 #[.slice x n1 cap, .slice a m cp] w (StPost (stS gs (L.map Cg.ch)) n1 w) := by
  have HPG := Lib.hid (pgood_c hg hs)
  have HMD := Lib.hid (fun (hp : pgoodS gs = 0) W (h : Below w.heap.size w W) => made_c hg hs hp m W a m cp L (Nat.le_refl _) h (hl.below h) hm)
  have HPL := Lib.hid (fun (h : ¬ pgoodS gs = 0) => st_pol (cs := L.map Cg.ch) h)
  obtain ⟨RV, hRV⟩ : ∃ z, stS gs (L.map Cg.ch) = z := ⟨_, rfl⟩
  rw [hRV] at HPL ⊢
  simp only [hRV] at HMD
  obtain ⟨PG, hPG⟩ : ∃ z, pgoodS gs = z := ⟨_, rfl⟩
  rw [hPG] at HPL HMD HPG
  clear hRV hPG hl hg hs
  go_enter Try.func44, Try.ntmps44
  by_cases h0 : PG = 0
  · subst h0
    go_upto_region 4 with (go_at_call 59; (with_reducible refine HPG.out.mono ?_); rintro e9 w9 ⟨rfl, hb9⟩; have HB9 := Lib.hid hb9; clear hb9)
    have HM := Lib.hid (HMD.out (by first | rfl | trivial) _ HB9.out)
    go_wp2_with (go_at_call 71; (with_reducible refine HM.out.mono ?_); rintro e9 w3 ⟨v3, N3, rfl, hp3, ho3, hb3⟩)
    go_ret2
    exact ⟨_, N3, rfl, hp3, ho3.mono HB9.out.size, HB9.out.trans (hb3.mono HB9.out.size)⟩
  · have HRR := Lib.hid (HPL.out h0)
    go_wp2_with (go_at_call 59; (with_reducible refine HPG.out.mono ?_); rintro e9 w9 ⟨rfl, hb9⟩)
    go_ret2
    exact ⟨_, [], by rw [HRR.out]; rfl, by rw [HRR.out]; rfl, OwnRw.nil _ _ _, hb9⟩
end Go.Proofs.Ytidbjmkfmfojdaa
end

section
namespace Go.Proofs.Ytidbjmkfmfojdaa
open Go.RowKit Go Go.Sort
set_option linter.unusedVariables false
set_option maxRecDepth 20000

/-- A sum that is asked about up to 6000. -/
def satM (n k : Nat) : Nat := if n + k ≤ 6000 then n + k else 6001
theorem satM_le (n k : Nat) : satM n k ≤ 6001 := by unfold satM; split <;> omega
theorem satM_fits {n k : Nat} (h : satM n k ≤ 6000) : satM n k = n + k ∧ n + k ≤ 6000 := by unfold satM at h ⊢; split <;> rename_i hh
                                                                                           <;> first
                                                                                             | exact ⟨rfl, hh⟩
                                                                                             | (rw [if_neg hh] at h; omega)
set_option maxHeartbeats 1600000 in
theorem radd6_c (n k : Nat) (hn : n ≤ 6001) (hk : k ≤ 9223372036854775807) (w : World) : Calls Try.prog 27 #[.int .i64 (n : Int), .int .i64 (k : Int), .int .i64 6000] w (fun e w' => e = .returned (.int .i64 ((satM n k : Nat) : Int)) ∧ w = w') := by
  obtain ⟨R, hR⟩ : ∃ R, satM n k = R := ⟨_, rfl⟩
  rw [hR]
  unfold satM at hR
  by_cases h1 : 6000 < n
  · have h1i : (6000 : Int) < (n : Int) := by omega
    obtain rfl : 6001 = R := by rw [← hR, if_neg (by omega)]
    clear hR
    go_enter Try.func27, Try.ntmps27
    go_wp2
    go_ret
    exact ⟨rfl, rfl⟩
  · have h1i : ¬ (6000 : Int) < (n : Int) := by omega
    by_cases h2 : 6000 < k
    · have h2i : (6000 : Int) < (k : Int) := by omega
      obtain rfl : 6001 = R := by rw [← hR, if_neg (by omega)]
      clear hR
      go_enter Try.func27, Try.ntmps27
      go_wp2
      go_ret
      exact ⟨rfl, rfl⟩
    · have h2i : ¬ (6000 : Int) < (k : Int) := by omega
      have hs1 : 6000 - (k : Int) ≤ 9223372036854775807 := by omega
      have hs2 : -9223372036854775808 ≤ 6000 - (k : Int) := by omega
      by_cases h3 : n + k ≤ 6000
      · have h3i : ¬ 6000 - (k : Int) < (n : Int) := by omega
        have HR := Lib.hid (show (n : Int) + (k : Int) = (R : Int) by rw [← hR, if_pos h3]; omega)
        have ha1 : (n : Int) + (k : Int) ≤ 9223372036854775807 := by omega
        clear hR
        go_enter Try.func27, Try.ntmps27
        go_wp2
        go_ret
        exact ⟨by rw [← HR.out]; go_num, rfl⟩
      · have h3i : 6000 - (k : Int) < (n : Int) := by omega
        obtain rfl : 6001 = R := by rw [← hR, if_neg (by omega)]
        clear hR
        go_enter Try.func27, Try.ntmps27
        go_wp2
        go_ret
        exact ⟨rfl, rfl⟩
theorem mem_getDw {l : List Wr} {k : Nat} (h : k < l.length) : l.getD k Wr.zero ∈ l := by
  rw [List.getD_eq_getElem?_getD, List.getElem?_eq_getElem h]; exact List.getElem_mem h
theorem satM_grows {n k lo : Nat} (h : n ≤ 6000 → lo ≤ n) : satM n k ≤ 6000 → lo ≤ satM n k := fun h1 => by
  obtain ⟨e, h2⟩ := satM_fits h1
  have := h (by omega)
  omega
end Go.Proofs.Ytidbjmkfmfojdaa
end

section
namespace Go.Proofs.Ytidbjmkfmfojdaa
open Go.RowKit Go Go.Sort
set_option linter.unusedVariables false
set_option maxRecDepth 20000

theorem mschema_c (w : World) : Calls Try.prog 56 #[] w (fun e w' => ∃ v, e = .returned v ∧ SchV v w' ∧ Below w.heap.size w w') := by
  go_enter Try.func56, Try.ntmps56
  go_wp2
  go_ret
  exact ⟨_, rfl, ⟨_, rfl, heap_alloc_new _ _⟩, alloc_below _ _⟩
set_option maxRecDepth 100000 in
set_option maxHeartbeats 3200000 in
theorem one_c (w : World) (site seq n a b : Int) (k : ByteArray) (i : Int) (g : Bool) (t : ByteArray) :
    Calls Try.prog 55 #[.int .i64 site, .int .i64 seq, .int .i64 n, .agg #[.int .i64 a, .int .i64 b], .agg #[.string k, .int .i64 i, .bool g, .string t]] w (fun e w' => ∃ q, e = .returned (.agg #[.int .i64 site, .int .i64 seq, .int .i64 n, .int .i64 site, .int .i64 a, .int .i64 b, .slice (some ⟨q, 0, none⟩) 1 1]) ∧ w'.heap[q]? = some (.cells #[.string k, .int .i64 i, .bool g, .string t] 94 (0, 0)) ∧ Below w.heap.size w w') := by
  go_enter Try.func55, Try.ntmps55
  go_wp2
  have hb1 := alloc_below w (.cells #[.int .i64 a, .int .i64 b] 73)
  have hb2 := alloc_below (w.alloc (.cells #[.int .i64 a, .int .i64 b] 73)) (.cells #[.string k, .int .i64 i, .bool g, .string t] 94)
  have hb12 := hb1.trans (hb2.mono hb1.size)
  have hs2 : ((w.alloc (.cells #[.int .i64 a, .int .i64 b] 73)).alloc (.cells #[.string k, .int .i64 i, .bool g, .string t] 94)).heap.size = w.heap.size + 1 + 1 := by simp
  generalize (w.alloc (.cells #[.int .i64 a, .int .i64 b] 73)).alloc (.cells #[.string k, .int .i64 i, .bool g, .string t] 94) = W2 at *
  rw [← hs2]
  have hr := heap_alloc_new W2 (.cells #[.int .i64 site, .int .i64 seq, .int .i64 n, .int .i64 site, .int .i64 a, .int .i64 b, .slice (some ⟨W2.heap.size + 1, 0, none⟩) 1 1] 91)
  have hb3 := alloc_below W2 (.cells #[.int .i64 site, .int .i64 seq, .int .i64 n, .int .i64 site, .int .i64 a, .int .i64 b, .slice (some ⟨W2.heap.size + 1, 0, none⟩) 1 1] 91)
  have hs3 := World.size_alloc W2 (.cells #[.int .i64 site, .int .i64 seq, .int .i64 n, .int .i64 site, .int .i64 a, .int .i64 b, .slice (some ⟨W2.heap.size + 1, 0, none⟩) 1 1] 91)
  generalize W2.alloc (.cells #[.int .i64 site, .int .i64 seq, .int .i64 n, .int .i64 site, .int .i64 a, .int .i64 b, .slice (some ⟨W2.heap.size + 1, 0, none⟩) 1 1] 91) = W3 at *
  have hb4 := alloc_below W3 (.cells #[.string k, .int .i64 i, .bool g, .string t] 94)
  have hn4 := heap_alloc_new W3 (.cells #[.string k, .int .i64 i, .bool g, .string t] 94)
  rw [hs3] at hn4
  have hb34 := hb3.trans (hb4.mono hb3.size)
  refine bodyPost_ret (results_cell_row rfl _ _ W2.heap.size 91 _ (0, 0) _ rfl (heap_below hr hb4) Try.underlying91 rfl (by kernel_rfl)) rfl ⟨_, rfl, hn4, hb12.trans (hb34.mono hb12.size)⟩
end Go.Proofs.Ytidbjmkfmfojdaa
end

