/-
  Merged: H4 H5 EA G3 G9 H6 JO H1 Tb.
-/
import Derived.Deep.QuietTactic
import Derived.StillTail
import Derived.Lib.QuietBelow
import Derived.Test.YtfkmfccdhmnllaaDoorRows
import Derived.WalkKit
import Derived.Lib.Hide
import Derived.BigQuiet
import Derived.BigRegion
import Derived.Deep.Cut
import Derived.Deep.MidRow
import Derived.Great.BuildSlice
import Derived.Outline
import Derived.OwnWalk
import Derived.Laws.Rows
import Derived.ChangeKeysEq
import Derived.Laws.StructEq
import Derived.WalkSpells
import Derived.WalkLawsBesides
import Derived.Laws.CopyOwn
import Derived.WalkSmall
import Derived.Lib.LaidTab
import Derived.Deep.RegionWith
import Derived.Lib.MinMax
import Derived.WideShapes
import Derived.ChangeSame
import Derived.OpenShut
import Derived.Deep.Slices
import Derived.Deep.AppendSrc
import Derived.Lib.AppendZerosOnto
import Derived.Lib.SliceRun
import Derived.Lib.Walk
import Derived.Lib.OthersKept
import Derived.Laws.RangeAny
import Derived.Maps.OwnOps
import Derived.Maps.Views
import Derived.ChangeSlices
import Derived.ChangeArms
import Derived.Deep.DeepAppendWide
import Derived.OrdersIn
import Derived.TacticsIn
import Derived.RangeFuncNested
import Derived.RangeFuncBound
import Derived.RangeFuncCalls
import Derived.RangeFuncLeaves
import Derived.Maps.AppendAt
import Derived.Shelf.Abstract
import Derived.OwnWalkIn
import Derived.TacticsInMore
import Derived.LoopNIn
import Derived.LoopIn
import Derived.Stop.LaidErr
import Derived.Test.YtfkmfccdhmnllaaDoorSC4

section
namespace Go.Proofs.YtfkmfccdhmnllaaDoor
open Go.RowKit Go Go.Sort
set_option linter.unusedVariables false
set_option maxRecDepth 20000

theorem cof_x (p n s a b : Int) (g : Bool) (t : List UInt8) (hmax : t.length ≤ 9223372036854775807) : ∃ (n9 s9 a9 b9 : Int) (g9 : Bool) (t9 : List UInt8) (d9 e9 f9 : Int), (cofS p n s a b g t).1 = ⟨n9, s9, a9, b9, g9, t9, d9, e9⟩ ∧ ∀ w : World, Calls Tryd.prog 30 #[.int .i64 p, .agg #[.int .i64 n, .int .i64 s], .agg #[.int .i64 a, .int .i64 b], .bool g, .string (text t)] w (Tells (.tuple #[.agg #[.int .i64 n9, .int .i64 s9, .int .i64 a9, .int .i64 b9, .bool g9, .string (text t9), .int .i64 d9, .int .i64 e9], .int .i64 f9]) w) := by
  have h := fun w => cof_c p n s a b g t hmax w
  obtain ⟨⟨⟨n9, s9, a9, b9, g9, t9, d9, e9⟩, f9⟩, hz⟩ : ∃ z, cofS p n s a b g t = z := ⟨_, rfl⟩
  rw [hz] at h
  exact ⟨n9, s9, a9, b9, g9, t9, d9, e9, f9, by rw [hz], h⟩
theorem rownew_x {w : World} {x : Option Addr} {n1 cap : Nat} {gs : List Grp} (hg : Grs w x n1 cap gs) (hs : ∀ g ∈ gs, g.1.length ≤ 9223372036854775807) (hp : pgoodS gs = 0) (key : List UInt8) (hk : key.length ≤ 9223372036854775807) (hk0 : keyS key = 0) :
    Calls Tryd.prog 29 #[.slice x n1 cap, .string (text key)] w (fun e w' => ∃ u, e = .returned (.tuple #[.agg #[.string (text key), u], .int .i64 0]) ∧ OwnC w' w.heap.size u (zerosC n1) ∧ Below w.heap.size w w') := by
  have h := rownew_c hg hs key hk
  rw [new_yes hp hk0, hg.len] at h
  exact h
theorem wrow_last (gs : List Grp) (n s a b : Int) (ws : List Wr) (k : Nat) : ∃ p, (wrowN gs n s a b ws (k + 1)).length = p + 1 ∧ ((wrowN gs n s a b ws (k + 1)).getD p ([], [])).1 = (ws.getD k Wr.zero).k := by
  show ∃ p, (rowPut _ (wrowN gs n s a b ws k) _ _ _).length = p + 1 ∧ ((rowPut _ (wrowN gs n s a b ws k) _ _ _).getD p ([], [])).1 = _
  unfold rowPut
  split
  · exact ⟨(wrowN gs n s a b ws k).length, by simp, by simp [List.getD_eq_getElem?_getD]⟩
  · rename_i h
    have h1 : (wrowN gs n s a b ws k).length ≠ 0 := fun e => h (.inl e)
    refine ⟨(wrowN gs n s a b ws k).length - 1, by simp; omega, ?_⟩
    rw [List.getD_eq_getElem?_getD, List.getElem?_set, if_pos rfl, if_pos (by omega)]
    rfl
theorem may_key {n : Nat} {c : Wr} (h : mayS n c = true) : keyS c.k = 0 := by
  unfold mayS at h
  simp only [Bool.and_eq_true, decide_eq_true_eq] at h
  exact h.1
set_option maxRecDepth 100000 in
set_option maxHeartbeats 12800000 in
theorem chrows_c {w : World} {x x2 : Option Addr} {n1 cap m cap2 : Nat} {gs : List Grp} {l : List Wr} (hg : Grs w x n1 cap gs) (hs : ∀ g ∈ gs, g.1.length ≤ 9223372036854775807) (hl : Wrs w x2 m cap2 l) (hx : WShort l) (site seq n s a b : Int) :
    Calls Tryd.prog 11 #[.slice x n1 cap, .agg #[.int .i64 site, .int .i64 seq, .int .i64 n, .int .i64 s, .int .i64 a, .int .i64 b, .slice x2 m cap2]] w (RwsPost (chrowsS gs site seq n s a b l) n1 w) := by
  have hgl := hg.len
  have hgle := hg.le
  have hgmx := hg.max
  have hll := hl.len
  have hle2 := hl.le
  have hmax2 := hl.max
  have HGD := Lib.hid (fun W (h : Below w.heap.size w W) => chgood_c (hg.below h) hs (hl.below h) hx site seq n s a b)
  have HNW := Lib.hid (fun (hp : pgoodS gs = 0) (key : List UInt8) (hk : key.length ≤ 9223372036854775807) (hk0 : keyS key = 0) W (h : Below w.heap.size w W) => rownew_x (hg.below h) hs hp key hk hk0)
  have HIV := Lib.hid (@ch_inv gs site seq n s a b l)
  have HP := Lib.hid (show chgoodS gs site seq n s a b l = 0 → chrowsS gs site seq n s a b l = (wrowN gs n s a b l m, 0) from fun h => by unfold chrowsS; rw [if_pos h, hll])
  have HQ := Lib.hid (show ¬ chgoodS gs site seq n s a b l = 0 → chrowsS gs site seq n s a b l = ([], chgoodS gs site seq n s a b l) from fun h => by unfold chrowsS; rw [if_neg h])
  have HL := Lib.hid hl
  have HG := Lib.hid hg
  obtain ⟨RV, hRV⟩ : ∃ z, chrowsS gs site seq n s a b l = z := ⟨_, rfl⟩
  rw [hRV] at HP HQ ⊢
  obtain ⟨R, hR⟩ : ∃ z, chgoodS gs site seq n s a b l = z := ⟨_, rfl⟩
  rw [hR] at HP HQ HIV
  simp only [hR] at HGD
  have hr := heap_alloc_new w (.cells #[.int .i64 site, .int .i64 seq, .int .i64 n, .int .i64 s, .int .i64 a, .int .i64 b, .slice x2 m cap2] 29)
  have hb := alloc_below w (.cells #[.int .i64 site, .int .i64 seq, .int .i64 n, .int .i64 s, .int .i64 a, .int .i64 b, .slice x2 m cap2] 29)
  clear hRV hR hg hs hl hx
  go_enter Tryd.func11, Tryd.ntmps11
  go_upto_region 1 with (fail)
  obtain ⟨B, hB⟩ : ∃ q, w.heap.size = q := ⟨_, rfl⟩
  have HBe := Lib.hid hB
  rw [hB] at hr ⊢
  clear hB
  generalize w.alloc (.cells #[.int .i64 site, .int .i64 seq, .int .i64 n, .int .i64 s, .int .i64 a, .int .i64 b, .slice x2 m cap2] 29) = W1 at *
  obtain ⟨c0, c1, c2, c3, c4, c5, c6⟩ := ch_cells hr
  have HR1 := Lib.hid hr
  have HB1 := Lib.hid hb
  clear hr hb
  by_cases h0 : R = 0
  · subst h0
    have HRR := Lib.hid (HP.out (by first | rfl | trivial))
    obtain ⟨hp0, hhd, hall⟩ := HIV.out (by first | rfl | trivial)
    have hn4 := pgood_len hp0
    rw [hll] at hhd hall
    obtain ⟨-, -, -, -, -, -, -, hd4, hd5⟩ := head_ok hhd
    have HALL := Lib.hid hall
    have HNW := Lib.hid (HNW.out hp0)
    clear HP HQ HIV hp0 hall hhd
    go_upto_region 5 with (go_at_call 13; (with_reducible refine (HGD.out _ HB1.out).mono ?_); rintro e9 w2 ⟨rfl, hb2⟩)
    have HB2 := Lib.hid (HB1.out.trans (hb2.mono HB1.out.size))
    have HR2 := Lib.hid (heap_below HR1.out hb2)
    clear hb2 HR1 HB1 HGD c0 c1 c2 c3 c4 c5 c6
    obtain ⟨c0, c1, c2, c3, c4, c5, c6⟩ := ch_cells HR2.out
    go_upto_region 6 with (fail)
    clear c0 c1 c2 c3 c4 c5 c6
    go_loopw [7, 23] (fun o i wr => ∃ (k : Nat) (v : Value) (L : List Rw), k ≤ m ∧ i = .int .i64 (k : Int) ∧ o = v ∧ OwnRw wr w.heap.size n1 v L ∧ L.map Rw.pr = wrowN gs n s a b l k ∧ Below w.heap.size w wr ∧ wr.heap[B]? = some (.cells #[.int .i64 site, .int .i64 seq, .int .i64 n, .int .i64 s, .int .i64 a, .int .i64 b, .slice x2 m cap2] 29 (0, 0))) (fun _ i _ => m - (intOf i).toNat)
    case atStart => exact ⟨0, .slice none 0 0, [], by omega, rfl, rfl, OwnRw.nil _ _ _, rfl, HB2.out, HR2.out⟩
    case round =>
      clear HB2 HR2
      obtain ⟨k, v, L, hk, rfl, rfl, ho, hpr, hb, hr⟩ := hrel
      obtain ⟨c0, c1, c2, c3, c4, c5, c6⟩ := ch_cells hr
      have hfew := wrow_few gs n s a b l k
      rw [← hpr, List.length_map] at hfew
      obtain ⟨al, cl, ev, -⟩ := ho.at
      obtain ⟨ll, hLL⟩ : ∃ z, L.length = z := ⟨_, rfl⟩
      rw [hLL] at hfew ev
      subst ev
      have HLL := Lib.hid hLL
      have HO := Lib.hid ho
      have HPR := Lib.hid hpr
      have HBr := Lib.hid hb
      have HRr := Lib.hid hr
      clear hLL ho hpr hb hr
      by_cases hlt : k < m
      · have hki : (k : Int) < (m : Int) := by omega
        have hkc : (k : Int) < (cap2 : Int) := by omega
        obtain ⟨bl, offl, rfl, hat⟩ := HL.out.place hlt
        obtain ⟨f1, -, f2, f3, f4, -⟩ := may_few (w_at (HALL.out k hlt))
        have f5 := may_key (w_at (HALL.out k hlt))
        have HN := Lib.hid (show wrowN gs n s a b l (k + 1) = rowPut gs.length (wrowN gs n s a b l k) (l.getD k Wr.zero).k (l.getD k Wr.zero).i.toNat (cofS (gs.getD (l.getD k Wr.zero).i.toNat ([], 0)).2 n s a b (l.getD k Wr.zero).g (l.getD k Wr.zero).v).1 from rfl)
        obtain ⟨y, hy⟩ : ∃ y, l.getD k Wr.zero = y := ⟨_, rfl⟩
        rw [hy] at hat HN f1 f2 f3 f4 f5
        obtain ⟨kx, ix, gx, vx⟩ := y
        simp only at hat HN f1 f2 f3 f4 f5
        obtain ⟨ii, rfl⟩ : ∃ ii : Nat, ix = (ii : Int) := ⟨ix.toNat, by omega⟩
        rw [Int.toNat_natCast, ← HPR.out, hgl] at HN
        have hii : ii < n1 := by omega
        have hiic : (ii : Int) < (cap : Int) := by omega
        have hiin : (ii : Int) < (n1 : Int) := by omega
        obtain ⟨bg, og, rfl, hgat⟩ := HG.out.at hii
        obtain ⟨⟨gn, pk⟩, hgn⟩ : ∃ z, gs.getD ii ([], 0) = z := ⟨_, rfl⟩
        rw [hgn] at hgat HN
        simp only at hgat HN
        obtain ⟨n9, s9, a9, b9, g9, t9, d9, e9, f9, hof, hcof⟩ := cof_x pk n s a b gx vx (by omega)
        rw [hof] at HN
        have HCO := Lib.hid hcof
        have HNEW := Lib.hid (HNW.out kx (by omega) f5)
        have HAT := Lib.hid (hat _ HBr.out)
        have HGT := Lib.hid hgat
        clear hat hgat hcof hof hgn hy f1 f2 f3 f4 f5
        obtain ⟨l0, l1, l2, l3⟩ := HAT.out
        go_upto_region 8 with (fail)
        clear c0 c1 c2 c3 c4 c5 c6 l0 l1 l2 l3 HAT
        have hal := alloc_below wr (.cells #[.string (text kx), .int .i64 (ii : Int), .bool gx, .string (text vx)] 31)
        have HS9 := Lib.hid (heap_alloc_new wr (.cells #[.string (text kx), .int .i64 (ii : Int), .bool gx, .string (text vx)] 31))
        have HB9 := Lib.hid (HBr.out.trans (hal.mono HBr.out.size))
        have HR9 := Lib.hid (heap_below HRr.out hal)
        have HO9 := Lib.hid (HO.out.kept hal)
        obtain ⟨gw, hgw⟩ : ∃ z, wr.heap.size = z := ⟨_, rfl⟩
        have HGW := Lib.hid (show w.heap.size ≤ gw by rw [← hgw]; exact HBr.out.size)
        rw [hgw] at HS9 ⊢
        generalize wr.alloc (.cells #[.string (text kx), .int .i64 (ii : Int), .bool gx, .string (text vx)] 31) = W9 at *
        clear hal hgw HBr HRr HO
        have hn0 : 0 < n1 := by omega
        have hklt : ll ≤ 8 := by omega
        by_cases hl0 : k = 0
        · have HZ0 := Lib.hid (show ((k : Int) == 0) = true by simp [hl0])
          have HL0 := Lib.hid (show ll = 0 by have h := HPR.out; rw [hl0] at h; have h := congrArg List.length h; rw [List.length_map, HLL.out] at h; exact h)
          clear hl0
          refine wp_region_flow [none, none, none, none, none, none, none, none, none, none, none, none, none, none, none, none, none, none, none, none, none, none, none, none, none, none, none, none, some 0, some 1, some 2, some 3, some 4, some 5, some 6, some 7, some 8, some 9, some 10, some 11, some 12, some 13, none, none, none, none, none, none, none, none, none, none, none, none, none, none, none, none, none, none, none, none, none, none, none, none, none, none, none, none, none, none, none, none, none, none, none, none, none, none, none, none, none, none] (fun i => [u28, u29, u30, u31, u32, u33, u34, u35, u36, u37, u38, u39, u40, u41].getD i undef) [(fun v _ => v = .int .i64 (k : Int)), (fun v _ => v = .bool true), (fun v _ => v = .bool true), (fun v _ => v = undef), (fun v _ => v = undef), (fun v _ => v = undef), (fun v _ => v = undef), (fun v _ => v = undef), (fun v _ => v = undef), (fun v _ => v = undef), (fun v _ => v = undef), (fun v _ => v = undef), (fun v _ => v = undef), (fun v _ => v = .bool true)] (by kernel_rfl) (by kernel_rfl) rfl rfl rfl ?_ ?_ ?_
          · intro g hg v X Y hX hY hv
            simp only [List.mem_cons, List.not_mem_nil, or_false] at hg
            rcases hg with rfl | rfl | rfl | rfl | rfl | rfl | rfl | rfl | rfl | rfl | rfl | rfl | rfl | rfl
            all_goals first
              | exact hv
              | exact hv.kept hY
          · simp only [flowOps, and_true]
            refine ⟨?_, ?_, ?_, ?_, ?_, ?_, ?_, ?_, ?_, ?_, ?_, ?_, ?_, ?_⟩
            · intro xs W hW hn
              simp only [flowAct, List.zipWith_cons_cons, List.zipWith_nil_left]
              go_wp2_with (fail)
              exact ⟨rfl, _, rfl, Below.refl _ _, rfl⟩
            · intro xs W hW hn
              have hz := HZ0.out
              simp [flowNeeds, Region.binds] at hn
              simp only [flowAct, List.zipWith_cons_cons, List.zipWith_nil_left]
              try simp only [hn]
              go_wp2_with (fail)
              exact ⟨rfl, _, rfl, Below.refl _ _, rfl⟩
            · intro xs W hW hn
              simp [flowNeeds, Region.binds] at hn
              simp only [flowAct, List.zipWith_cons_cons, List.zipWith_nil_left]
              try simp only [hn]
              go_wp2_with (fail)
              exact ⟨rfl, _, rfl, Below.refl _ _, rfl⟩
            · intro xs W hW hn
              simp [flowNeeds, Region.binds] at hn
              simp only [flowAct, List.zipWith_cons_cons, List.zipWith_nil_left]
              try simp only [hn]
              go_wp2_with (fail)
              exact ⟨rfl, _, rfl, Below.refl _ _, rfl⟩
            · intro xs W hW hn
              simp [flowNeeds, Region.binds] at hn
              simp only [flowAct, List.zipWith_cons_cons, List.zipWith_nil_left]
              try simp only [hn]
              go_wp2_with (fail)
              exact ⟨rfl, _, rfl, Below.refl _ _, rfl⟩
            · intro xs W hW hn
              simp [flowNeeds, Region.binds] at hn
              simp only [flowAct, List.zipWith_cons_cons, List.zipWith_nil_left]
              try simp only [hn]
              go_wp2_with (fail)
              exact ⟨rfl, _, rfl, Below.refl _ _, rfl⟩
            · intro xs W hW hn
              simp [flowNeeds, Region.binds] at hn
              simp only [flowAct, List.zipWith_cons_cons, List.zipWith_nil_left]
              try simp only [hn]
              go_wp2_with (fail)
              exact ⟨rfl, _, rfl, Below.refl _ _, rfl⟩
            · intro xs W hW hn
              simp [flowNeeds, Region.binds] at hn
              simp only [flowAct, List.zipWith_cons_cons, List.zipWith_nil_left]
              try simp only [hn]
              go_wp2_with (fail)
              exact ⟨rfl, _, rfl, Below.refl _ _, rfl⟩
            · intro xs W hW hn
              simp [flowNeeds, Region.binds] at hn
              simp only [flowAct, List.zipWith_cons_cons, List.zipWith_nil_left]
              try simp only [hn]
              go_wp2_with (fail)
              exact ⟨rfl, _, rfl, Below.refl _ _, rfl⟩
            · intro xs W hW hn
              simp [flowNeeds, Region.binds] at hn
              simp only [flowAct, List.zipWith_cons_cons, List.zipWith_nil_left]
              try simp only [hn]
              go_wp2_with (fail)
              exact ⟨rfl, _, rfl, Below.refl _ _, rfl⟩
            · intro xs W hW hn
              simp [flowNeeds, Region.binds] at hn
              simp only [flowAct, List.zipWith_cons_cons, List.zipWith_nil_left]
              try simp only [hn]
              go_wp2_with (fail)
              exact ⟨rfl, _, rfl, Below.refl _ _, rfl⟩
            · intro xs W hW hn
              simp [flowNeeds, Region.binds] at hn
              simp only [flowAct, List.zipWith_cons_cons, List.zipWith_nil_left]
              try simp only [hn]
              go_wp2_with (fail)
              exact ⟨rfl, _, rfl, Below.refl _ _, rfl⟩
            · intro xs W hW hn
              simp [flowNeeds, Region.binds] at hn
              simp only [flowAct, List.zipWith_cons_cons, List.zipWith_nil_left]
              try simp only [hn]
              go_wp2_with (fail)
              exact ⟨rfl, _, rfl, Below.refl _ _, rfl⟩
            · intro xs W hW hn
              simp [flowNeeds, Region.binds] at hn
              simp only [flowAct, List.zipWith_cons_cons, List.zipWith_nil_left]
              try simp only [hn]
              go_wp2_with (fail)
              exact ⟨rfl, _, rfl, Below.refl _ _, rfl⟩
          · intro xs W hW hall
            simp only [flowAll, and_true, Nat.zero_add, Nat.reduceAdd] at hall
            obtain ⟨-, -, -, -, -, -, -, -, -, -, -, -, -, eL⟩ := hall
            simp only [flowAct, List.zipWith_cons_cons, List.zipWith_nil_left]
            simp only [eL]
            have hbk := HB9.out.trans (hW.mono HB9.out.size)
            have hrk := heap_below HR9.out hW
            have hsk := heap_below HS9.out hW
            have hok := HO9.out.kept hW
            clear eL
            obtain ⟨WK, hWK⟩ : ∃ X, W = X := ⟨_, rfl⟩
            rw [hWK] at hbk hrk hsk hok ⊢
            clear hWK hW HB9 HR9 HS9 HO9
            have HBT := Lib.hid hbk
            have HRT := Lib.hid hrk
            have HST := Lib.hid hsk
            have HOT := Lib.hid hok
            clear hbk hrk hsk hok
            obtain ⟨w0, w1, w2, w3⟩ := wr_cells HST.out
            have hzl : (zerosC n1).length = n1 := by simp [zerosC]
            have HZL := Lib.hid hzl
            go_upto_region 10 with (go_at_call 29; (with_reducible refine (HNEW.out _ HBT.out).mono ?_); rintro e9 w4 ⟨u, rfl, hou, hb4⟩; obtain ⟨gc, cc, rfl, hgcB, hccl, hgclt⟩ := own_some hou (by rw [HZL.out]; omega); rw [HZL.out] at hou hccl ⊢)
            have hal4 := alloc_below w4 (.cells #[.string (text kx), .slice (some ⟨gc, 0, none⟩) n1 cc] 60)
            have hqr := heap_alloc_new w4 (.cells #[.string (text kx), .slice (some ⟨gc, 0, none⟩) n1 cc] 60)
            have hb5 := hb4.trans (hal4.mono hb4.size)
            have HB5 := Lib.hid (HBT.out.trans (hb5.mono HBT.out.size))
            have HR5 := Lib.hid (heap_below HRT.out hb5)
            have HS5 := Lib.hid (heap_below HST.out hb5)
            have HO5 := Lib.hid (HOT.out.kept hb5)
            have HOU := Lib.hid (hou.kept hal4)
            have HLTB := Lib.hid hb5.size
            have HBT2 := Lib.hid (Nat.le_trans HBT.out.size hgcB)
            obtain ⟨qr, hqr2⟩ : ∃ z, w4.heap.size = z := ⟨_, rfl⟩
            rw [hqr2] at hqr
            try rw [hqr2]
            clear hal4 hb5 hb4 hou hgclt hqr2 w0 w1 w2 w3
            generalize w4.alloc (.cells #[.string (text kx), .slice (some ⟨gc, 0, none⟩) n1 cc] 60) = w5 at *
            obtain ⟨y0, y1⟩ := pair_cells hqr
            clear hqr
            go_upto_region 11 with (at_builtin; refine wpList_append_rw rfl _ _ rfl (u := .slice al ll cl) rfl HO5.out.row kx _ _ _ (zerosC n1) rfl (by rw [HLL.out]; omega) HB5.out.size ?_; intro v' w' ho' hg'; have hpush := HO5.out.push HZL.out HOU.out (by omega) HBT.out.size (fun j hj q hq => ((HOT.out.own j hj).1.lt q hq).2) _ ho' hg'; obtain ⟨at', ct', evt, -⟩ := hpush.at; rw [List.length_append, List.length_singleton, HLL.out] at evt; subst evt)
            have HB8 := Lib.hid ((HB5.out.alloc HB5.out.size (.cells #[.string (text kx), .slice (some ⟨gc, 0, none⟩) n1 cc] 60)).grown hg' (by simp; have := HB5.out.size; omega) (fun z e => (HO5.out.row.lt z e).1))
            have HR8 := Lib.hid (heap_grown ((Below.heap_alloc w5 (.cells #[.string (text kx), .slice (some ⟨gc, 0, none⟩) n1 cc] 60) B (Array.getElem?_eq_some_iff.1 HR5.out).1).trans HR5.out) hg' (own_ne HR5.out (by decide) HO5.out.row))
            have HS8 := Lib.hid (heap_grown ((Below.heap_alloc w5 (.cells #[.string (text kx), .slice (some ⟨gc, 0, none⟩) n1 cc] 60) gw (Array.getElem?_eq_some_iff.1 HS5.out).1).trans HS5.out) hg' (own_ne HS5.out (by decide) HO5.out.row))
            have HO8 := Lib.hid hpush
            have HLP := Lib.hid (show (L ++ [(⟨kx, .slice (some ⟨gc, 0, none⟩) n1 cc, zerosC n1⟩ : Rw)]).getD ll Rw.zero = ⟨kx, .slice (some ⟨gc, 0, none⟩) n1 cc, zerosC n1⟩ by rw [getD_push, HLL.out]; simp)
            have HPUT := Lib.hid (show ((L ++ [(⟨kx, .slice (some ⟨gc, 0, none⟩) n1 cc, zerosC n1⟩ : Rw)]).set ll (⟨kx, .slice (some ⟨gc, 0, none⟩) n1 cc, (zerosC n1).set ii ⟨n9, s9, a9, b9, g9, t9, d9, e9⟩⟩ : Rw)).map Rw.pr = wrowN gs n s a b l (k + 1) by rw [HN.out, ← HLL.out]; exact put_new rfl (.inl (HLL.out.trans HL0.out)))
            have HTL := Lib.hid (show (L ++ [(⟨kx, .slice (some ⟨gc, 0, none⟩) n1 cc, zerosC n1⟩ : Rw)]).length = ll + 1 by rw [List.length_append, HLL.out]; rfl)
            obtain ⟨br, offr, eat, hct1, hct2, hcl8, hoc8, hcs8⟩ := HO8.out.last HTL.out HLP.out
            subst eat
            have HLC8 := Lib.hid hcl8
            have HOC8 := Lib.hid hoc8
            have HCS8 := Lib.hid hcs8
            clear hcl8 hoc8 hcs8 hpush ho' hg' HOU HO5 HS5 HR5 HB5 HOT HST HRT HBT y0 y1
            obtain ⟨LT, hLT⟩ : ∃ z, (L ++ [(⟨kx, .slice (some ⟨gc, 0, none⟩) n1 cc, zerosC n1⟩ : Rw)]) = z := ⟨_, rfl⟩
            rw [hLT] at HO8 HLP HPUT HTL
            clear hLT
            obtain ⟨CS, hCS⟩ : ∃ z, zerosC n1 = z := ⟨_, rfl⟩
            rw [hCS] at HLP HPUT HOC8 HCS8
            clear hCS
            have HGC := Lib.hid (show w.heap.size ≤ gc by have := HBT2.out; omega)
            obtain ⟨M9, hM9⟩ : ∃ z, ll + 1 = z := ⟨_, rfl⟩
            rw [hM9] at HO8 hct1 ⊢
            have HM9 := Lib.hid (show (M9 : Int) - 1 = ((ll : Nat) : Int) by omega)
            have hM8 : ((ll : Nat) : Int) < (M9 : Int) := by omega
            have hM7 : ((ll : Nat) : Int) < (ct' : Int) := by omega
            have HMM := Lib.hid hM9
            clear hM9
            have HGS := Lib.hid (show GSt 67 (fun i v _ => v = [.slice (some ⟨bg, og, none⟩) n1 cap, .pointer (some ⟨gw, 1, none⟩), .int .i64 (ii : Int), .pointer (some ⟨bg, og + ii * 2, none⟩), .pointer (some ⟨bg, og + ii * 2 + 1, none⟩), .int .i64 pk, .pointer (some ⟨B, 2, none⟩), .agg #[.int .i64 n, .int .i64 s], .pointer (some ⟨B, 4, none⟩), .agg #[.int .i64 a, .int .i64 b], .pointer (some ⟨gw, 2, none⟩), .bool gx, .pointer (some ⟨gw, 3, none⟩), .string (text vx), .tuple #[.agg #[.int .i64 n9, .int .i64 s9, .int .i64 a9, .int .i64 b9, .bool g9, .string (text t9), .int .i64 d9, .int .i64 e9], .int .i64 f9], .tuple #[.agg #[.int .i64 n9, .int .i64 s9, .int .i64 a9, .int .i64 b9, .bool g9, .string (text t9), .int .i64 d9, .int .i64 e9], .int .i64 f9], .agg #[.int .i64 n9, .int .i64 s9, .int .i64 a9, .int .i64 b9, .bool g9, .string (text t9), .int .i64 d9, .int .i64 e9], .int .i64 f9].getD i undef) from ⟨fun i v X Y h _ => h, fun i v X Y q cs ds _ _ h => h⟩)
            refine wp_region_inv [none, none, none, none, none, none, none, none, none, none, none, none, some 18, some 20, none, none, none, none, none, none, none, none, none, none, none, none, none, none, none, none, none, none, none, none, none, none, none, none, none, none, none, none, none, none, none, none, none, none, none, none, none, none, none, some 15, some 0, some 1, some 2, some 3, some 4, some 5, some 6, some 7, some 8, some 9, some 10, some 11, some 12, some 13, some 14, some 16, some 17, none, none, none, none, none, none, none, none, none, none, none, none, none] (fun i => [u54, u55, u56, u57, u58, u59, u60, u61, u62, u63, u64, u65, u66, u67, u68, u53, u69, u70, u12, undef, u13].getD i undef) (LayG 18 1 67 #[.int .i64 0, .int .i64 0, .int .i64 0, .int .i64 0, .bool false, .string ⟨#[]⟩, .int .i64 0, .int .i64 0] (fun i v _ => v = [.slice (some ⟨bg, og, none⟩) n1 cap, .pointer (some ⟨gw, 1, none⟩), .int .i64 (ii : Int), .pointer (some ⟨bg, og + ii * 2, none⟩), .pointer (some ⟨bg, og + ii * 2 + 1, none⟩), .int .i64 pk, .pointer (some ⟨B, 2, none⟩), .agg #[.int .i64 n, .int .i64 s], .pointer (some ⟨B, 4, none⟩), .agg #[.int .i64 a, .int .i64 b], .pointer (some ⟨gw, 2, none⟩), .bool gx, .pointer (some ⟨gw, 3, none⟩), .string (text vx), .tuple #[.agg #[.int .i64 n9, .int .i64 s9, .int .i64 a9, .int .i64 b9, .bool g9, .string (text t9), .int .i64 d9, .int .i64 e9], .int .i64 f9], .tuple #[.agg #[.int .i64 n9, .int .i64 s9, .int .i64 a9, .int .i64 b9, .bool g9, .string (text t9), .int .i64 d9, .int .i64 e9], .int .i64 f9], .agg #[.int .i64 n9, .int .i64 s9, .int .i64 a9, .int .i64 b9, .bool g9, .string (text t9), .int .i64 d9, .int .i64 e9], .int .i64 f9].getD i undef) (fun _ => 16) w') (by kernel_rfl) (by kernel_rfl) rfl rfl (fun LL hL => LayG.start fun i hi => hL i (Nat.lt_of_lt_of_le hi (by decide))) ?_ ?_
            · simp only [invOps, and_true]
              refine ⟨?_, ?_, ?_, ?_, ?_, ?_, ?_, ?_, ?_, ?_, ?_, ?_, ?_, ?_, ?_, ?_, ?_, ?_, ?_, ?_, ?_⟩
              · intro LL xs W hI hL hn
                simp only [flowAct, List.zipWith_cons_cons, List.zipWith_nil_left]
                go_wp2_with (fail)
                exact ⟨rfl, _, rfl, hI.set HGS.out 0 (by decide) (Below.refl _ _) rfl⟩
              · intro LL xs W hI hL hn
                simp only [flowAct, List.zipWith_cons_cons, List.zipWith_nil_left]
                go_wp2_with (fail)
                exact ⟨rfl, _, rfl, hI.set HGS.out 1 (by decide) (Below.refl _ _) rfl⟩
              · intro LL xs W hI hL hn
                obtain ⟨w0, w1, w2, w3⟩ := wr_cells (heap_below HS8.out hI.below)
                simp [invNeeds, Region.binds] at hn
                have e1 : xs 1 = .pointer (some ⟨gw, 1, none⟩) := hI.2.1 1 (by decide) (by simp only [hn])
                simp only [flowAct, List.zipWith_cons_cons, List.zipWith_nil_left]
                simp only [e1]
                go_wp2_with (fail)
                exact ⟨rfl, _, rfl, hI.set HGS.out 2 (by decide) (Below.refl _ _) rfl⟩
              · intro LL xs W hI hL hn
                simp [invNeeds, Region.binds] at hn
                have e0 : xs 0 = .slice (some ⟨bg, og, none⟩) n1 cap := hI.2.1 0 (by decide) (by simp only [hn])
                have e2 : xs 2 = .int .i64 (ii : Int) := hI.2.1 2 (by decide) (by simp only [hn])
                simp only [flowAct, List.zipWith_cons_cons, List.zipWith_nil_left]
                simp only [e0, e2]
                go_wp2_with (fail)
                exact ⟨rfl, _, rfl, hI.set HGS.out 3 (by decide) (Below.refl _ _) rfl⟩
              · intro LL xs W hI hL hn
                simp [invNeeds, Region.binds] at hn
                have e3 : xs 3 = .pointer (some ⟨bg, og + ii * 2, none⟩) := hI.2.1 3 (by decide) (by simp only [hn])
                simp only [flowAct, List.zipWith_cons_cons, List.zipWith_nil_left]
                simp only [e3]
                go_wp2_with (fail)
                exact ⟨rfl, _, rfl, hI.set HGS.out 4 (by decide) (Below.refl _ _) rfl⟩
              · intro LL xs W hI hL hn
                obtain ⟨g0, g1⟩ := HGT.out W (HB8.out.trans (hI.below.mono HB8.out.size))
                simp [invNeeds, Region.binds] at hn
                have e4 : xs 4 = .pointer (some ⟨bg, og + ii * 2 + 1, none⟩) := hI.2.1 4 (by decide) (by simp only [hn])
                simp only [flowAct, List.zipWith_cons_cons, List.zipWith_nil_left]
                simp only [e4]
                go_wp2_with (fail)
                exact ⟨rfl, _, rfl, hI.set HGS.out 5 (by decide) (Below.refl _ _) rfl⟩
              · intro LL xs W hI hL hn
                simp only [flowAct, List.zipWith_cons_cons, List.zipWith_nil_left]
                go_wp2_with (fail)
                exact ⟨rfl, _, rfl, hI.set HGS.out 6 (by decide) (Below.refl _ _) rfl⟩
              · intro LL xs W hI hL hn
                obtain ⟨c0, c1, c2, c3, c4, c5, c6⟩ := ch_cells (heap_below HR8.out hI.below)
                simp [invNeeds, Region.binds] at hn
                have e6 : xs 6 = .pointer (some ⟨B, 2, none⟩) := hI.2.1 6 (by decide) (by simp only [hn])
                simp only [flowAct, List.zipWith_cons_cons, List.zipWith_nil_left]
                simp only [e6]
                go_wp2_with (fail)
                exact ⟨rfl, _, rfl, hI.set HGS.out 7 (by decide) (Below.refl _ _) rfl⟩
              · intro LL xs W hI hL hn
                simp only [flowAct, List.zipWith_cons_cons, List.zipWith_nil_left]
                go_wp2_with (fail)
                exact ⟨rfl, _, rfl, hI.set HGS.out 8 (by decide) (Below.refl _ _) rfl⟩
              · intro LL xs W hI hL hn
                obtain ⟨c0, c1, c2, c3, c4, c5, c6⟩ := ch_cells (heap_below HR8.out hI.below)
                simp [invNeeds, Region.binds] at hn
                have e8 : xs 8 = .pointer (some ⟨B, 4, none⟩) := hI.2.1 8 (by decide) (by simp only [hn])
                simp only [flowAct, List.zipWith_cons_cons, List.zipWith_nil_left]
                simp only [e8]
                go_wp2_with (fail)
                exact ⟨rfl, _, rfl, hI.set HGS.out 9 (by decide) (Below.refl _ _) rfl⟩
              · intro LL xs W hI hL hn
                simp only [flowAct, List.zipWith_cons_cons, List.zipWith_nil_left]
                go_wp2_with (fail)
                exact ⟨rfl, _, rfl, hI.set HGS.out 10 (by decide) (Below.refl _ _) rfl⟩
              · intro LL xs W hI hL hn
                obtain ⟨w0, w1, w2, w3⟩ := wr_cells (heap_below HS8.out hI.below)
                simp [invNeeds, Region.binds] at hn
                have e10 : xs 10 = .pointer (some ⟨gw, 2, none⟩) := hI.2.1 10 (by decide) (by simp only [hn])
                simp only [flowAct, List.zipWith_cons_cons, List.zipWith_nil_left]
                simp only [e10]
                go_wp2_with (fail)
                exact ⟨rfl, _, rfl, hI.set HGS.out 11 (by decide) (Below.refl _ _) rfl⟩
              · intro LL xs W hI hL hn
                simp only [flowAct, List.zipWith_cons_cons, List.zipWith_nil_left]
                go_wp2_with (fail)
                exact ⟨rfl, _, rfl, hI.set HGS.out 12 (by decide) (Below.refl _ _) rfl⟩
              · intro LL xs W hI hL hn
                obtain ⟨w0, w1, w2, w3⟩ := wr_cells (heap_below HS8.out hI.below)
                simp [invNeeds, Region.binds] at hn
                have e12 : xs 12 = .pointer (some ⟨gw, 3, none⟩) := hI.2.1 12 (by decide) (by simp only [hn])
                simp only [flowAct, List.zipWith_cons_cons, List.zipWith_nil_left]
                simp only [e12]
                go_wp2_with (fail)
                exact ⟨rfl, _, rfl, hI.set HGS.out 13 (by decide) (Below.refl _ _) rfl⟩
              · intro LL xs W hI hL hn
                simp [invNeeds, Region.binds] at hn
                have e5 : xs 5 = .int .i64 pk := hI.2.1 5 (by decide) (by simp only [hn])
                have e7 : xs 7 = .agg #[.int .i64 n, .int .i64 s] := hI.2.1 7 (by decide) (by simp only [hn])
                have e9 : xs 9 = .agg #[.int .i64 a, .int .i64 b] := hI.2.1 9 (by decide) (by simp only [hn])
                have e11 : xs 11 = .bool gx := hI.2.1 11 (by decide) (by simp only [hn])
                have e13 : xs 13 = .string (text vx) := hI.2.1 13 (by decide) (by simp only [hn])
                simp only [flowAct, List.zipWith_cons_cons, List.zipWith_nil_left]
                simp only [e5, e7, e9, e11, e13]
                go_wp2_with (go_at_call 30; (with_reducible refine (HCO.out _).mono ?_); rintro e9 w9 ⟨rfl, hb9⟩)
                exact ⟨rfl, _, rfl, hI.set HGS.out 14 (by decide) hb9 rfl⟩
              · intro LL xs W hI hL hn
                simp [invNeeds, Region.binds] at hn
                have e14 : xs 14 = .tuple #[.agg #[.int .i64 n9, .int .i64 s9, .int .i64 a9, .int .i64 b9, .bool g9, .string (text t9), .int .i64 d9, .int .i64 e9], .int .i64 f9] := hI.2.1 14 (by decide) (by simp only [hn])
                simp only [flowAct, List.zipWith_cons_cons, List.zipWith_nil_left]
                simp only [e14]
                go_wp2_with (fail)
                exact ⟨rfl, _, rfl, hI.set HGS.out 15 (by decide) (Below.refl _ _) rfl⟩
              · intro LL xs W hI hL hn
                simp [invNeeds, Region.binds] at hn
                have e15 : xs 15 = .tuple #[.agg #[.int .i64 n9, .int .i64 s9, .int .i64 a9, .int .i64 b9, .bool g9, .string (text t9), .int .i64 d9, .int .i64 e9], .int .i64 f9] := hI.2.1 15 (by decide) (by simp only [hn])
                simp only [flowAct, List.zipWith_cons_cons, List.zipWith_nil_left]
                simp only [e15]
                go_wp2_with (fail)
                exact ⟨rfl, _, rfl, hI.set HGS.out 16 (by decide) (Below.refl _ _) rfl⟩
              · intro LL xs W hI hL hn
                simp [invNeeds, Region.binds] at hn
                have e15 : xs 15 = .tuple #[.agg #[.int .i64 n9, .int .i64 s9, .int .i64 a9, .int .i64 b9, .bool g9, .string (text t9), .int .i64 d9, .int .i64 e9], .int .i64 f9] := hI.2.1 15 (by decide) (by simp only [hn])
                simp only [flowAct, List.zipWith_cons_cons, List.zipWith_nil_left]
                simp only [e15]
                go_wp2_with (fail)
                exact ⟨rfl, _, rfl, hI.set HGS.out 17 (by decide) (Below.refl _ _) rfl⟩
              · intro LL xs W hI hL hn
                simp only [flowAct, List.zipWith_cons_cons, List.zipWith_nil_left]
                go_wp2_with (fail)
                exact ⟨rfl, _, rfl, hI.alloc HGS.out 0 (by decide) rfl hL⟩
              · intro LL xs W hI hL hn
                simp [invNeeds, Region.binds] at hn
                obtain ⟨hk, hv⟩ : LL 18 = true ∧ LL 16 = true := by simp only [hn, and_self]
                obtain ⟨g5, cs5, eg, lg, hgc, hz5⟩ := hI.2.2.1 0 (by decide) hk
                rw [if_neg (by rw [show LL (18 + 1 + 0) = false from hL]; decide)] at hz5
                subst hz5
                have e0 : xs 16 = .agg #[.int .i64 n9, .int .i64 s9, .int .i64 a9, .int .i64 b9, .bool g9, .string (text t9), .int .i64 d9, .int .i64 e9] := hI.2.1 16 (by decide) hv
                have e1 : xs 18 = .pointer (some ⟨g5, 0, none⟩) := eg
                have hc5 : Cel W g5 0 0 0 0 false [] 0 0 := hgc
                obtain ⟨p0, p1, p2, p3, p4, p5, p6, p7⟩ := hc5.cs
                have pfz := hc5.fz
                simp only [flowAct, List.zipWith_cons_cons, List.zipWith_nil_left]
                simp only [e0, e1]
                go_wp2_with (fail)
                exact ⟨rfl, undef, rfl, hI.store HGS.out 0 (by decide) rfl rfl hk eg rfl (Wrote.cell8 hc5 n9 s9 a9 b9 g9 t9 d9 e9) undef⟩
              · intro LL xs W hI hL hn
                simp [invNeeds, Region.binds] at hn
                have e17 : xs 17 = .int .i64 f9 := hI.2.1 17 (by decide) (by simp only [hn])
                simp only [flowAct, List.zipWith_cons_cons, List.zipWith_nil_left]
                simp only [e17]
                go_wp2_with (fail)
                exact ⟨rfl, _, rfl, hI.other 20 (by decide) _⟩
            · intro LL xs W hI hall
              obtain ⟨hW, -, hP, -, -⟩ := hI
              obtain ⟨gx9, cs7, e7, l7, h7, g7⟩ := hP 0 (by decide) (hall 18 (by decide))
              rw [if_pos (hall (18 + 1 + 0) (by decide))] at g7
              have g7 : Value.agg cs7 = .agg #[.int .i64 n9, .int .i64 s9, .int .i64 a9, .int .i64 b9, .bool g9, .string (text t9), .int .i64 d9, .int .i64 e9] := g7
              injection g7 with g7
              subst g7
              clear g7
              replace e7 : xs 18 = _ := e7
              clear hP hall
              simp only [flowAct, List.zipWith_cons_cons, List.zipWith_nil_left]
              simp only [e7]
              have hbk := HB8.out.trans (hW.mono HB8.out.size)
              have hrk := heap_below HR8.out hW
              have hsk := heap_below HS8.out hW
              have hok := HO8.out.kept hW
              have hoc := HOC8.out.kept hW
              have hlc := fun W' (h : Below W.heap.size W W') => HLC8.out W' (hW.trans (h.mono hW.size))
              have hce : Cel W gx9 n9 s9 a9 b9 g9 t9 d9 e9 := h7
              clear e7 h7 hW HGS HGT
              obtain ⟨WK, hWK⟩ : ∃ X, W = X := ⟨_, rfl⟩
              rw [hWK] at hbk hrk hsk hok hoc hlc hce ⊢
              clear hWK HB8 HR8 HS8 HO8 HOC8 HLC8
              have HB7 := Lib.hid hbk
              have HR7 := Lib.hid hrk
              have HS7 := Lib.hid hsk
              have HO7 := Lib.hid hok
              have HOC7 := Lib.hid hoc
              have HLC7 := Lib.hid hlc
              have HCE := Lib.hid hce
              clear hbk hrk hsk hok hoc hlc hce
              go_upto_region 12 with (fail)
              refine wp_region_flow_tail 10 [none, none, none, none, none, none, none, none, none, none, none, none, none, none, none, none, none, none, none, none, none, none, none, none, none, none, none, none, none, none, none, none, none, none, none, none, none, none, none, none, none, none, none, none, none, none, none, none, none, none, none, none, none, none, none, none, none, none, none, none, none, none, none, none, none, none, none, none, none, none, none, some 0, some 1, some 2, some 3, some 4, some 5, some 6, some 7, some 8, some 9, none, none, none] (fun i => [u71, u72, u73, u74, u75, u76, u77, u78, u79, u80].getD i undef) [(fun v _ => v = .slice (some ⟨br, offr, none⟩) M9 ct'), (fun v _ => v = .slice (some ⟨br, offr, none⟩) M9 ct'), (fun v _ => v = .int .i64 (M9 : Int)), (fun v _ => v = .int .i64 ((ll : Nat) : Int)), (fun v _ => v = .pointer (some ⟨br, offr + ll * 2, none⟩)), (fun v _ => v = .pointer (some ⟨br, offr + ll * 2 + 1, none⟩)), (fun v _ => v = .slice (some ⟨gc, 0, none⟩) n1 cc), (fun v _ => v = .pointer (some ⟨gw, 1, none⟩)), (fun v _ => v = .int .i64 (ii : Int)), (fun v _ => v = .agg #[.int .i64 n9, .int .i64 s9, .int .i64 a9, .int .i64 b9, .bool g9, .string (text t9), .int .i64 d9, .int .i64 e9])] (fun _ => False) (by kernel_rfl) (by kernel_rfl) (by kernel_rfl) rfl rfl rfl ?_ ?_ ?_
              · intro g hg v X Y hX hY hv
                simp only [List.mem_cons, List.not_mem_nil, or_false] at hg
                rcases hg with rfl | rfl | rfl | rfl | rfl | rfl | rfl | rfl | rfl | rfl
                all_goals first
                  | exact hv
                  | exact hv.kept hY
              · simp only [flowOpsF, List.take_succ_cons, List.take_zero, and_true]
                refine ⟨?_, ?_, ?_, ?_, ?_, ?_, ?_, ?_, ?_, ?_⟩
                · intro xs W hW hn
                  simp only [flowAct, List.zipWith_cons_cons, List.zipWith_nil_left]
                  go_wp2_with (fail)
                  exact ⟨rfl, _, rfl, Below.refl _ _, rfl, fun h => h.elim⟩
                · intro xs W hW hn
                  simp only [flowAct, List.zipWith_cons_cons, List.zipWith_nil_left]
                  go_wp2_with (fail)
                  exact ⟨rfl, _, rfl, Below.refl _ _, rfl, fun h => h.elim⟩
                · intro xs W hW hn
                  simp [flowNeeds, Region.binds] at hn
                  simp only [flowAct, List.zipWith_cons_cons, List.zipWith_nil_left]
                  try simp only [hn]
                  go_wp2_with (fail)
                  exact ⟨rfl, _, rfl, Below.refl _ _, rfl, fun h => h.elim⟩
                · intro xs W hW hn
                  have hm9 := HM9.out
                  simp [flowNeeds, Region.binds] at hn
                  simp only [flowAct, List.zipWith_cons_cons, List.zipWith_nil_left]
                  simp only [hn]
                  go_wp2_with (fail)
                  exact ⟨rfl, _, rfl, Below.refl _ _, by first | rfl | go_num, fun h => h.elim⟩
                · intro xs W hW hn
                  simp [flowNeeds, Region.binds] at hn
                  simp only [flowAct, List.zipWith_cons_cons, List.zipWith_nil_left]
                  try simp only [hn]
                  go_wp2_with (fail)
                  exact ⟨rfl, _, rfl, Below.refl _ _, rfl, fun h => h.elim⟩
                · intro xs W hW hn
                  simp [flowNeeds, Region.binds] at hn
                  simp only [flowAct, List.zipWith_cons_cons, List.zipWith_nil_left]
                  try simp only [hn]
                  go_wp2_with (fail)
                  exact ⟨rfl, _, rfl, Below.refl _ _, rfl, fun h => h.elim⟩
                · intro xs W hW hn
                  obtain ⟨r0, r1⟩ := HLC7.out W hW
                  simp [flowNeeds, Region.binds] at hn
                  simp only [flowAct, List.zipWith_cons_cons, List.zipWith_nil_left]
                  try simp only [hn]
                  go_wp2_with (fail)
                  exact ⟨rfl, _, rfl, Below.refl _ _, rfl, fun h => h.elim⟩
                · intro xs W hW hn
                  simp only [flowAct, List.zipWith_cons_cons, List.zipWith_nil_left]
                  go_wp2_with (fail)
                  exact ⟨rfl, _, rfl, Below.refl _ _, rfl, fun h => h.elim⟩
                · intro xs W hW hn
                  obtain ⟨w0, w1, w2, w3⟩ := wr_cells (heap_below HS7.out hW)
                  simp [flowNeeds, Region.binds] at hn
                  simp only [flowAct, List.zipWith_cons_cons, List.zipWith_nil_left]
                  try simp only [hn]
                  go_wp2_with (fail)
                  exact ⟨rfl, _, rfl, Below.refl _ _, rfl, fun h => h.elim⟩
                · intro xs W hW hn
                  obtain ⟨p0, p1, p2, p3, p4, p5, p6, p7⟩ := (HCE.out.kept hW).cs
                  simp only [flowAct, List.zipWith_cons_cons, List.zipWith_nil_left]
                  go_wp2_with (fail)
                  exact ⟨rfl, _, rfl, Below.refl _ _, rfl, fun h => h.elim⟩
              · intro xs W hW hall hfr
                clear hfr
                simp only [flowAll, and_true, Nat.zero_add, Nat.reduceAdd] at hall
                obtain ⟨-, -, -, -, -, -, y6, -, y8, y9⟩ := hall
                simp only [flowAct, List.zipWith_cons_cons, List.zipWith_nil_left, List.drop_succ_cons, List.drop_zero]
                simp only [y6, y8, y9]
                have HBx := Lib.hid (HB7.out.trans (hW.mono HB7.out.size))
                have HRx := Lib.hid (heap_below HR7.out hW)
                have HOx := Lib.hid (HO7.out.kept hW)
                have HOCx := Lib.hid (HOC7.out.kept hW)
                have hlk : ii < CS.length := by have := HCS8.out; omega
                have HLK := Lib.hid hlk
                have pfz := own_fz HOCx.out
                obtain ⟨p0, p1, p2, p3, p4, p5, p6, p7⟩ := own_at HOCx.out hlk _ (Below.refl _ _)
                clear y6 y8 y9 hW hlk
                go_wp2
                go_roundw
                case rel => exact ⟨k + 1, _, LT.set ll ⟨kx, .slice (some ⟨gc, 0, none⟩) n1 cc, CS.set ii ⟨n9, s9, a9, b9, g9, t9, d9, e9⟩⟩, by omega, by go_num, rfl, (by have hst := OwnRw.store HOx.out (j := ll) (by rw [HTL.out]; omega) (by rw [HLP.out]; exact put_only (k := ii) n9 s9 a9 b9 g9 t9 d9 e9) (by rw [HLP.out]; exact own_put HOCx.out HLK.out n9 s9 a9 b9 g9 t9 d9 e9) (by rw [List.length_set]; exact HCS8.out) hn0; rw [HLP.out] at hst; exact hst), HPUT.out, cells_put_below (k := ii) HBx.out HGC.out n9 s9 a9 b9 g9 t9 d9 e9, ((put_only (g := gc) (m := n1) (c := cc) (k := ii) n9 s9 a9 b9 g9 t9 d9 e9).rest B (own_ne HRx.out (by decide) HOCx.out)).trans HRx.out⟩
                case measure => simp [intOf]; omega
            
        · obtain ⟨k1, hk1⟩ : ∃ k1, k = k1 + 1 := ⟨k - 1, by omega⟩
          have HK1 := Lib.hid (show (k : Int) - 1 = (k1 : Int) by omega)
          have hk1m : k1 < m := by omega
          have hk1i : (k1 : Int) < (m : Int) := by omega
          have hk1c : (k1 : Int) < (cap2 : Int) := by omega
          have hpr := HPR.out
          rw [hk1] at hpr
          obtain ⟨p, hp1, hp2⟩ := wrow_last gs n s a b l k1
          rw [← hpr, List.length_map, HLL.out] at hp1
          rw [← hpr, prs_at (by rw [HLL.out]; omega)] at hp2
          obtain ⟨⟨kp, ip, gp, vp⟩, hyp⟩ : ∃ z, l.getD k1 Wr.zero = z := ⟨_, rfl⟩
          obtain ⟨bl', offl', ebl, hatp⟩ := HL.out.place hk1m
          obtain ⟨rfl, rfl⟩ : bl = bl' ∧ offl = offl' := by injection ebl with e1; injection e1 with e2 e3; exact ⟨e2, e3⟩
          rw [hyp] at hatp hp2
          simp only at hatp hp2
          have HPV := Lib.hid hatp
          subst hp1
          have HZ0 := Lib.hid (show ((k : Int) == 0) = false by simp; omega)
          obtain ⟨⟨kl, ul, csl⟩, hlp⟩ : ∃ z, L.getD p Rw.zero = z := ⟨_, rfl⟩
          rw [hlp] at hp2
          replace hp2 : kl = kp := hp2
          subst hp2
          obtain ⟨br, offr, eal, hct1, hct2, hcl, hoc, hcs⟩ := HO9.out.last HLL.out hlp
          subst eal
          obtain ⟨gc, cc, rfl, hgcB, hccl, hgclt⟩ := own_some hoc (by omega)
          rw [hcs] at hccl hcl hoc hlp
          have HLP := Lib.hid hlp
          have HLC := Lib.hid hcl
          have HOC := Lib.hid hoc
          have HCS := Lib.hid hcs
          have hte := text_eqb kx kl
          obtain ⟨Q, hQ⟩ : ∃ z, (kx == kl) = z := ⟨_, rfl⟩
          rw [hQ] at hte
          have HTE := Lib.hid hte
          have HQ9 := Lib.hid hQ
          clear hlp hcl hoc hcs hte hQ hpr hyp hatp ebl hl0 hk1
          refine wp_region_flow [none, none, none, none, none, none, none, none, none, none, none, none, none, none, none, none, none, none, none, none, none, none, none, none, none, none, none, none, some 0, some 1, some 2, some 3, some 4, some 5, some 6, some 7, some 8, some 9, some 10, some 11, some 12, some 13, none, none, none, none, none, none, none, none, none, none, none, none, none, none, none, none, none, none, none, none, none, none, none, none, none, none, none, none, none, none, none, none, none, none, none, none, none, none, none, none, none, none] (fun i => [u28, u29, u30, u31, u32, u33, u34, u35, u36, u37, u38, u39, u40, u41].getD i undef) [(fun v _ => v = .int .i64 (k : Int)), (fun v _ => v = .bool false), (fun v _ => v = .bool false), (fun v _ => v = .pointer (some ⟨gw, 0, none⟩)), (fun v _ => v = .string (text kx)), (fun v _ => v = .pointer (some ⟨B, 6, none⟩)), (fun v _ => v = .slice (some ⟨bl, offl, none⟩) m cap2), (fun v _ => v = .int .i64 (k : Int)), (fun v _ => v = .int .i64 (k1 : Int)), (fun v _ => v = .pointer (some ⟨bl, offl + k1 * 4, none⟩)), (fun v _ => v = .pointer (some ⟨bl, offl + k1 * 4, none⟩)), (fun v _ => v = .string (text kl)), (fun v _ => v = .bool (!Q)), (fun v _ => v = .bool (!Q))] (by kernel_rfl) (by kernel_rfl) rfl rfl rfl ?_ ?_ ?_
          · intro g hg v X Y hX hY hv
            simp only [List.mem_cons, List.not_mem_nil, or_false] at hg
            rcases hg with rfl | rfl | rfl | rfl | rfl | rfl | rfl | rfl | rfl | rfl | rfl | rfl | rfl | rfl
            all_goals first
              | exact hv
              | exact hv.kept hY
          · simp only [flowOps, and_true]
            refine ⟨?_, ?_, ?_, ?_, ?_, ?_, ?_, ?_, ?_, ?_, ?_, ?_, ?_, ?_⟩
            · intro xs W hW hn
              simp only [flowAct, List.zipWith_cons_cons, List.zipWith_nil_left]
              go_wp2_with (fail)
              exact ⟨rfl, _, rfl, Below.refl _ _, rfl⟩
            · intro xs W hW hn
              have hz := HZ0.out
              simp [flowNeeds, Region.binds] at hn
              simp only [flowAct, List.zipWith_cons_cons, List.zipWith_nil_left]
              simp only [hn]
              go_wp2_with (fail)
              exact ⟨rfl, _, rfl, Below.refl _ _, by go_num⟩
            · intro xs W hW hn
              simp [flowNeeds, Region.binds] at hn
              simp only [flowAct, List.zipWith_cons_cons, List.zipWith_nil_left]
              try simp only [hn]
              go_wp2_with (fail)
              exact ⟨rfl, _, rfl, Below.refl _ _, rfl⟩
            · intro xs W hW hn
              simp [flowNeeds, Region.binds] at hn
              simp only [flowAct, List.zipWith_cons_cons, List.zipWith_nil_left]
              try simp only [hn]
              go_wp2_with (fail)
              exact ⟨rfl, _, rfl, Below.refl _ _, rfl⟩
            · intro xs W hW hn
              obtain ⟨w0, w1, w2, w3⟩ := wr_cells (heap_below HS9.out hW)
              simp [flowNeeds, Region.binds] at hn
              simp only [flowAct, List.zipWith_cons_cons, List.zipWith_nil_left]
              try simp only [hn]
              go_wp2_with (fail)
              exact ⟨rfl, _, rfl, Below.refl _ _, rfl⟩
            · intro xs W hW hn
              simp [flowNeeds, Region.binds] at hn
              simp only [flowAct, List.zipWith_cons_cons, List.zipWith_nil_left]
              try simp only [hn]
              go_wp2_with (fail)
              exact ⟨rfl, _, rfl, Below.refl _ _, rfl⟩
            · intro xs W hW hn
              obtain ⟨-, -, -, -, -, -, c6⟩ := ch_cells (heap_below HR9.out hW)
              simp [flowNeeds, Region.binds] at hn
              simp only [flowAct, List.zipWith_cons_cons, List.zipWith_nil_left]
              try simp only [hn]
              go_wp2_with (fail)
              exact ⟨rfl, _, rfl, Below.refl _ _, rfl⟩
            · intro xs W hW hn
              simp [flowNeeds, Region.binds] at hn
              simp only [flowAct, List.zipWith_cons_cons, List.zipWith_nil_left]
              try simp only [hn]
              go_wp2_with (fail)
              exact ⟨rfl, _, rfl, Below.refl _ _, rfl⟩
            · intro xs W hW hn
              have hk1 := HK1.out
              simp [flowNeeds, Region.binds] at hn
              simp only [flowAct, List.zipWith_cons_cons, List.zipWith_nil_left]
              simp only [hn]
              go_wp2_with (fail)
              exact ⟨rfl, _, rfl, Below.refl _ _, by go_num⟩
            · intro xs W hW hn
              simp [flowNeeds, Region.binds] at hn
              simp only [flowAct, List.zipWith_cons_cons, List.zipWith_nil_left]
              try simp only [hn]
              go_wp2_with (fail)
              exact ⟨rfl, _, rfl, Below.refl _ _, rfl⟩
            · intro xs W hW hn
              simp [flowNeeds, Region.binds] at hn
              simp only [flowAct, List.zipWith_cons_cons, List.zipWith_nil_left]
              try simp only [hn]
              go_wp2_with (fail)
              exact ⟨rfl, _, rfl, Below.refl _ _, rfl⟩
            · intro xs W hW hn
              obtain ⟨v0, v1, v2, v3⟩ := HPV.out W (HB9.out.trans (hW.mono HB9.out.size))
              simp [flowNeeds, Region.binds] at hn
              simp only [flowAct, List.zipWith_cons_cons, List.zipWith_nil_left]
              try simp only [hn]
              go_wp2_with (fail)
              exact ⟨rfl, _, rfl, Below.refl _ _, rfl⟩
            · intro xs W hW hn
              have hte := HTE.out
              simp [flowNeeds, Region.binds] at hn
              simp only [flowAct, List.zipWith_cons_cons, List.zipWith_nil_left]
              try simp only [hn]
              go_wp2_with (fail)
              exact ⟨rfl, _, rfl, Below.refl _ _, rfl⟩
            · intro xs W hW hn
              simp [flowNeeds, Region.binds] at hn
              simp only [flowAct, List.zipWith_cons_cons, List.zipWith_nil_left]
              try simp only [hn]
              go_wp2_with (fail)
              exact ⟨rfl, _, rfl, Below.refl _ _, rfl⟩
          · intro xs W hW hall
            simp only [flowAll, and_true, Nat.zero_add, Nat.reduceAdd] at hall
            obtain ⟨-, -, -, -, -, -, -, -, -, -, -, -, -, eL⟩ := hall
            simp only [flowAct, List.zipWith_cons_cons, List.zipWith_nil_left]
            simp only [eL]
            have hbk := HB9.out.trans (hW.mono HB9.out.size)
            have hrk := heap_below HR9.out hW
            have hsk := heap_below HS9.out hW
            have hok := HO9.out.kept hW
            clear eL
            have hct0 := fun W' (h : Below W.heap.size W W') => HLC.out W' (hW.trans (h.mono hW.size))
            have hoc0 := HOC.out.kept hW
            obtain ⟨WK, hWK⟩ : ∃ X, W = X := ⟨_, rfl⟩
            rw [hWK] at hbk hrk hsk hok hct0 hoc0 ⊢
            clear hWK hW HB9 HR9 HS9 HO9
            have HLCT := Lib.hid hct0
            have HOCT := Lib.hid hoc0
            clear hct0 hoc0
            have HBT := Lib.hid hbk
            have HRT := Lib.hid hrk
            have HST := Lib.hid hsk
            have HOT := Lib.hid hok
            clear hbk hrk hsk hok
            cases Q with
            | false =>
              obtain ⟨w0, w1, w2, w3⟩ := wr_cells HST.out
              have hzl : (zerosC n1).length = n1 := by simp [zerosC]
              have HZL := Lib.hid hzl
              go_upto_region 10 with (go_at_call 29; (with_reducible refine (HNEW.out _ HBT.out).mono ?_); rintro e9 w4 ⟨u, rfl, hou, hb4⟩; obtain ⟨gc, cc, rfl, hgcB, hccl, hgclt⟩ := own_some hou (by rw [HZL.out]; omega); rw [HZL.out] at hou hccl ⊢)
              have hal4 := alloc_below w4 (.cells #[.string (text kx), .slice (some ⟨gc, 0, none⟩) n1 cc] 60)
              have hqr := heap_alloc_new w4 (.cells #[.string (text kx), .slice (some ⟨gc, 0, none⟩) n1 cc] 60)
              have hb5 := hb4.trans (hal4.mono hb4.size)
              have HB5 := Lib.hid (HBT.out.trans (hb5.mono HBT.out.size))
              have HR5 := Lib.hid (heap_below HRT.out hb5)
              have HS5 := Lib.hid (heap_below HST.out hb5)
              have HO5 := Lib.hid (HOT.out.kept hb5)
              have HOU := Lib.hid (hou.kept hal4)
              have HLTB := Lib.hid hb5.size
              have HBT2 := Lib.hid (Nat.le_trans HBT.out.size hgcB)
              obtain ⟨qr, hqr2⟩ : ∃ z, w4.heap.size = z := ⟨_, rfl⟩
              rw [hqr2] at hqr
              try rw [hqr2]
              clear hal4 hb5 hb4 hou hgclt hqr2 w0 w1 w2 w3
              generalize w4.alloc (.cells #[.string (text kx), .slice (some ⟨gc, 0, none⟩) n1 cc] 60) = w5 at *
              obtain ⟨y0, y1⟩ := pair_cells hqr
              clear hqr
              go_upto_region 11 with (at_builtin; refine wpList_append_rw rfl _ _ rfl (u := .slice (some ⟨br, offr, none⟩) (p + 1) cl) rfl HO5.out.row kx _ _ _ (zerosC n1) rfl (by rw [HLL.out]; omega) HB5.out.size ?_; intro v' w' ho' hg'; have hpush := HO5.out.push HZL.out HOU.out (by omega) HBT.out.size (fun j hj q hq => ((HOT.out.own j hj).1.lt q hq).2) _ ho' hg'; obtain ⟨at', ct', evt, -⟩ := hpush.at; rw [List.length_append, List.length_singleton, HLL.out] at evt; subst evt)
              have HB8 := Lib.hid ((HB5.out.alloc HB5.out.size (.cells #[.string (text kx), .slice (some ⟨gc, 0, none⟩) n1 cc] 60)).grown hg' (by simp; have := HB5.out.size; omega) (fun z e => (HO5.out.row.lt z e).1))
              have HR8 := Lib.hid (heap_grown ((Below.heap_alloc w5 (.cells #[.string (text kx), .slice (some ⟨gc, 0, none⟩) n1 cc] 60) B (Array.getElem?_eq_some_iff.1 HR5.out).1).trans HR5.out) hg' (own_ne HR5.out (by decide) HO5.out.row))
              have HS8 := Lib.hid (heap_grown ((Below.heap_alloc w5 (.cells #[.string (text kx), .slice (some ⟨gc, 0, none⟩) n1 cc] 60) gw (Array.getElem?_eq_some_iff.1 HS5.out).1).trans HS5.out) hg' (own_ne HS5.out (by decide) HO5.out.row))
              have HO8 := Lib.hid hpush
              have HLPn := Lib.hid (show (L ++ [(⟨kx, .slice (some ⟨gc, 0, none⟩) n1 cc, zerosC n1⟩ : Rw)]).getD (p + 1) Rw.zero = ⟨kx, .slice (some ⟨gc, 0, none⟩) n1 cc, zerosC n1⟩ by rw [getD_push, HLL.out]; simp)
              have HPUT := Lib.hid (show ((L ++ [(⟨kx, .slice (some ⟨gc, 0, none⟩) n1 cc, zerosC n1⟩ : Rw)]).set (p + 1) (⟨kx, .slice (some ⟨gc, 0, none⟩) n1 cc, (zerosC n1).set ii ⟨n9, s9, a9, b9, g9, t9, d9, e9⟩⟩ : Rw)).map Rw.pr = wrowN gs n s a b l (k + 1) by rw [HN.out, ← HLL.out]; exact put_new rfl (.inr (by rw [HLL.out, Nat.add_sub_cancel, HLP.out]; have h9 := HQ9.out; exact fun e => (by simpa using h9 : kx ≠ kl) e.symm)))
              have HTL := Lib.hid (show (L ++ [(⟨kx, .slice (some ⟨gc, 0, none⟩) n1 cc, zerosC n1⟩ : Rw)]).length = (p + 1) + 1 by rw [List.length_append, HLL.out]; rfl)
              obtain ⟨br9, offr9, eat, hct1, hct2, hcl8, hoc8, hcs8⟩ := HO8.out.last HTL.out HLPn.out
              subst eat
              have HLC8 := Lib.hid hcl8
              have HOC8 := Lib.hid hoc8
              have HCS8 := Lib.hid hcs8
              clear hcl8 hoc8 hcs8 hpush ho' hg' HOU HO5 HS5 HR5 HB5 HOT HST HRT HBT y0 y1
              obtain ⟨LT, hLT⟩ : ∃ z, (L ++ [(⟨kx, .slice (some ⟨gc, 0, none⟩) n1 cc, zerosC n1⟩ : Rw)]) = z := ⟨_, rfl⟩
              rw [hLT] at HO8 HLPn HPUT HTL
              clear hLT
              obtain ⟨CS, hCS⟩ : ∃ z, zerosC n1 = z := ⟨_, rfl⟩
              rw [hCS] at HLPn HPUT HOC8 HCS8
              clear hCS
              have HGC := Lib.hid (show w.heap.size ≤ gc by have := HBT2.out; omega)
              obtain ⟨M9, hM9⟩ : ∃ z, (p + 1) + 1 = z := ⟨_, rfl⟩
              rw [hM9] at HO8 hct1 ⊢
              have HM9 := Lib.hid (show (M9 : Int) - 1 = (((p + 1) : Nat) : Int) by omega)
              have hM8 : (((p + 1) : Nat) : Int) < (M9 : Int) := by omega
              have hM7 : (((p + 1) : Nat) : Int) < (ct' : Int) := by omega
              have HMM := Lib.hid hM9
              clear hM9
              have HGS := Lib.hid (show GSt 67 (fun i v _ => v = [.slice (some ⟨bg, og, none⟩) n1 cap, .pointer (some ⟨gw, 1, none⟩), .int .i64 (ii : Int), .pointer (some ⟨bg, og + ii * 2, none⟩), .pointer (some ⟨bg, og + ii * 2 + 1, none⟩), .int .i64 pk, .pointer (some ⟨B, 2, none⟩), .agg #[.int .i64 n, .int .i64 s], .pointer (some ⟨B, 4, none⟩), .agg #[.int .i64 a, .int .i64 b], .pointer (some ⟨gw, 2, none⟩), .bool gx, .pointer (some ⟨gw, 3, none⟩), .string (text vx), .tuple #[.agg #[.int .i64 n9, .int .i64 s9, .int .i64 a9, .int .i64 b9, .bool g9, .string (text t9), .int .i64 d9, .int .i64 e9], .int .i64 f9], .tuple #[.agg #[.int .i64 n9, .int .i64 s9, .int .i64 a9, .int .i64 b9, .bool g9, .string (text t9), .int .i64 d9, .int .i64 e9], .int .i64 f9], .agg #[.int .i64 n9, .int .i64 s9, .int .i64 a9, .int .i64 b9, .bool g9, .string (text t9), .int .i64 d9, .int .i64 e9], .int .i64 f9].getD i undef) from ⟨fun i v X Y h _ => h, fun i v X Y q cs ds _ _ h => h⟩)
              refine wp_region_inv [none, none, none, none, none, none, none, none, none, none, none, none, some 18, some 20, none, none, none, none, none, none, none, none, none, none, none, none, none, none, none, none, none, none, none, none, none, none, none, none, none, none, none, none, none, none, none, none, none, none, none, none, none, none, none, some 15, some 0, some 1, some 2, some 3, some 4, some 5, some 6, some 7, some 8, some 9, some 10, some 11, some 12, some 13, some 14, some 16, some 17, none, none, none, none, none, none, none, none, none, none, none, none, none] (fun i => [u54, u55, u56, u57, u58, u59, u60, u61, u62, u63, u64, u65, u66, u67, u68, u53, u69, u70, u12, undef, u13].getD i undef) (LayG 18 1 67 #[.int .i64 0, .int .i64 0, .int .i64 0, .int .i64 0, .bool false, .string ⟨#[]⟩, .int .i64 0, .int .i64 0] (fun i v _ => v = [.slice (some ⟨bg, og, none⟩) n1 cap, .pointer (some ⟨gw, 1, none⟩), .int .i64 (ii : Int), .pointer (some ⟨bg, og + ii * 2, none⟩), .pointer (some ⟨bg, og + ii * 2 + 1, none⟩), .int .i64 pk, .pointer (some ⟨B, 2, none⟩), .agg #[.int .i64 n, .int .i64 s], .pointer (some ⟨B, 4, none⟩), .agg #[.int .i64 a, .int .i64 b], .pointer (some ⟨gw, 2, none⟩), .bool gx, .pointer (some ⟨gw, 3, none⟩), .string (text vx), .tuple #[.agg #[.int .i64 n9, .int .i64 s9, .int .i64 a9, .int .i64 b9, .bool g9, .string (text t9), .int .i64 d9, .int .i64 e9], .int .i64 f9], .tuple #[.agg #[.int .i64 n9, .int .i64 s9, .int .i64 a9, .int .i64 b9, .bool g9, .string (text t9), .int .i64 d9, .int .i64 e9], .int .i64 f9], .agg #[.int .i64 n9, .int .i64 s9, .int .i64 a9, .int .i64 b9, .bool g9, .string (text t9), .int .i64 d9, .int .i64 e9], .int .i64 f9].getD i undef) (fun _ => 16) w') (by kernel_rfl) (by kernel_rfl) rfl rfl (fun LL hL => LayG.start fun i hi => hL i (Nat.lt_of_lt_of_le hi (by decide))) ?_ ?_
              · simp only [invOps, and_true]
                refine ⟨?_, ?_, ?_, ?_, ?_, ?_, ?_, ?_, ?_, ?_, ?_, ?_, ?_, ?_, ?_, ?_, ?_, ?_, ?_, ?_, ?_⟩
                · intro LL xs W hI hL hn
                  simp only [flowAct, List.zipWith_cons_cons, List.zipWith_nil_left]
                  go_wp2_with (fail)
                  exact ⟨rfl, _, rfl, hI.set HGS.out 0 (by decide) (Below.refl _ _) rfl⟩
                · intro LL xs W hI hL hn
                  simp only [flowAct, List.zipWith_cons_cons, List.zipWith_nil_left]
                  go_wp2_with (fail)
                  exact ⟨rfl, _, rfl, hI.set HGS.out 1 (by decide) (Below.refl _ _) rfl⟩
                · intro LL xs W hI hL hn
                  obtain ⟨w0, w1, w2, w3⟩ := wr_cells (heap_below HS8.out hI.below)
                  simp [invNeeds, Region.binds] at hn
                  have e1 : xs 1 = .pointer (some ⟨gw, 1, none⟩) := hI.2.1 1 (by decide) (by simp only [hn])
                  simp only [flowAct, List.zipWith_cons_cons, List.zipWith_nil_left]
                  simp only [e1]
                  go_wp2_with (fail)
                  exact ⟨rfl, _, rfl, hI.set HGS.out 2 (by decide) (Below.refl _ _) rfl⟩
                · intro LL xs W hI hL hn
                  simp [invNeeds, Region.binds] at hn
                  have e0 : xs 0 = .slice (some ⟨bg, og, none⟩) n1 cap := hI.2.1 0 (by decide) (by simp only [hn])
                  have e2 : xs 2 = .int .i64 (ii : Int) := hI.2.1 2 (by decide) (by simp only [hn])
                  simp only [flowAct, List.zipWith_cons_cons, List.zipWith_nil_left]
                  simp only [e0, e2]
                  go_wp2_with (fail)
                  exact ⟨rfl, _, rfl, hI.set HGS.out 3 (by decide) (Below.refl _ _) rfl⟩
                · intro LL xs W hI hL hn
                  simp [invNeeds, Region.binds] at hn
                  have e3 : xs 3 = .pointer (some ⟨bg, og + ii * 2, none⟩) := hI.2.1 3 (by decide) (by simp only [hn])
                  simp only [flowAct, List.zipWith_cons_cons, List.zipWith_nil_left]
                  simp only [e3]
                  go_wp2_with (fail)
                  exact ⟨rfl, _, rfl, hI.set HGS.out 4 (by decide) (Below.refl _ _) rfl⟩
                · intro LL xs W hI hL hn
                  obtain ⟨g0, g1⟩ := HGT.out W (HB8.out.trans (hI.below.mono HB8.out.size))
                  simp [invNeeds, Region.binds] at hn
                  have e4 : xs 4 = .pointer (some ⟨bg, og + ii * 2 + 1, none⟩) := hI.2.1 4 (by decide) (by simp only [hn])
                  simp only [flowAct, List.zipWith_cons_cons, List.zipWith_nil_left]
                  simp only [e4]
                  go_wp2_with (fail)
                  exact ⟨rfl, _, rfl, hI.set HGS.out 5 (by decide) (Below.refl _ _) rfl⟩
                · intro LL xs W hI hL hn
                  simp only [flowAct, List.zipWith_cons_cons, List.zipWith_nil_left]
                  go_wp2_with (fail)
                  exact ⟨rfl, _, rfl, hI.set HGS.out 6 (by decide) (Below.refl _ _) rfl⟩
                · intro LL xs W hI hL hn
                  obtain ⟨c0, c1, c2, c3, c4, c5, c6⟩ := ch_cells (heap_below HR8.out hI.below)
                  simp [invNeeds, Region.binds] at hn
                  have e6 : xs 6 = .pointer (some ⟨B, 2, none⟩) := hI.2.1 6 (by decide) (by simp only [hn])
                  simp only [flowAct, List.zipWith_cons_cons, List.zipWith_nil_left]
                  simp only [e6]
                  go_wp2_with (fail)
                  exact ⟨rfl, _, rfl, hI.set HGS.out 7 (by decide) (Below.refl _ _) rfl⟩
                · intro LL xs W hI hL hn
                  simp only [flowAct, List.zipWith_cons_cons, List.zipWith_nil_left]
                  go_wp2_with (fail)
                  exact ⟨rfl, _, rfl, hI.set HGS.out 8 (by decide) (Below.refl _ _) rfl⟩
                · intro LL xs W hI hL hn
                  obtain ⟨c0, c1, c2, c3, c4, c5, c6⟩ := ch_cells (heap_below HR8.out hI.below)
                  simp [invNeeds, Region.binds] at hn
                  have e8 : xs 8 = .pointer (some ⟨B, 4, none⟩) := hI.2.1 8 (by decide) (by simp only [hn])
                  simp only [flowAct, List.zipWith_cons_cons, List.zipWith_nil_left]
                  simp only [e8]
                  go_wp2_with (fail)
                  exact ⟨rfl, _, rfl, hI.set HGS.out 9 (by decide) (Below.refl _ _) rfl⟩
                · intro LL xs W hI hL hn
                  simp only [flowAct, List.zipWith_cons_cons, List.zipWith_nil_left]
                  go_wp2_with (fail)
                  exact ⟨rfl, _, rfl, hI.set HGS.out 10 (by decide) (Below.refl _ _) rfl⟩
                · intro LL xs W hI hL hn
                  obtain ⟨w0, w1, w2, w3⟩ := wr_cells (heap_below HS8.out hI.below)
                  simp [invNeeds, Region.binds] at hn
                  have e10 : xs 10 = .pointer (some ⟨gw, 2, none⟩) := hI.2.1 10 (by decide) (by simp only [hn])
                  simp only [flowAct, List.zipWith_cons_cons, List.zipWith_nil_left]
                  simp only [e10]
                  go_wp2_with (fail)
                  exact ⟨rfl, _, rfl, hI.set HGS.out 11 (by decide) (Below.refl _ _) rfl⟩
                · intro LL xs W hI hL hn
                  simp only [flowAct, List.zipWith_cons_cons, List.zipWith_nil_left]
                  go_wp2_with (fail)
                  exact ⟨rfl, _, rfl, hI.set HGS.out 12 (by decide) (Below.refl _ _) rfl⟩
                · intro LL xs W hI hL hn
                  obtain ⟨w0, w1, w2, w3⟩ := wr_cells (heap_below HS8.out hI.below)
                  simp [invNeeds, Region.binds] at hn
                  have e12 : xs 12 = .pointer (some ⟨gw, 3, none⟩) := hI.2.1 12 (by decide) (by simp only [hn])
                  simp only [flowAct, List.zipWith_cons_cons, List.zipWith_nil_left]
                  simp only [e12]
                  go_wp2_with (fail)
                  exact ⟨rfl, _, rfl, hI.set HGS.out 13 (by decide) (Below.refl _ _) rfl⟩
                · intro LL xs W hI hL hn
                  simp [invNeeds, Region.binds] at hn
                  have e5 : xs 5 = .int .i64 pk := hI.2.1 5 (by decide) (by simp only [hn])
                  have e7 : xs 7 = .agg #[.int .i64 n, .int .i64 s] := hI.2.1 7 (by decide) (by simp only [hn])
                  have e9 : xs 9 = .agg #[.int .i64 a, .int .i64 b] := hI.2.1 9 (by decide) (by simp only [hn])
                  have e11 : xs 11 = .bool gx := hI.2.1 11 (by decide) (by simp only [hn])
                  have e13 : xs 13 = .string (text vx) := hI.2.1 13 (by decide) (by simp only [hn])
                  simp only [flowAct, List.zipWith_cons_cons, List.zipWith_nil_left]
                  simp only [e5, e7, e9, e11, e13]
                  go_wp2_with (go_at_call 30; (with_reducible refine (HCO.out _).mono ?_); rintro e9 w9 ⟨rfl, hb9⟩)
                  exact ⟨rfl, _, rfl, hI.set HGS.out 14 (by decide) hb9 rfl⟩
                · intro LL xs W hI hL hn
                  simp [invNeeds, Region.binds] at hn
                  have e14 : xs 14 = .tuple #[.agg #[.int .i64 n9, .int .i64 s9, .int .i64 a9, .int .i64 b9, .bool g9, .string (text t9), .int .i64 d9, .int .i64 e9], .int .i64 f9] := hI.2.1 14 (by decide) (by simp only [hn])
                  simp only [flowAct, List.zipWith_cons_cons, List.zipWith_nil_left]
                  simp only [e14]
                  go_wp2_with (fail)
                  exact ⟨rfl, _, rfl, hI.set HGS.out 15 (by decide) (Below.refl _ _) rfl⟩
                · intro LL xs W hI hL hn
                  simp [invNeeds, Region.binds] at hn
                  have e15 : xs 15 = .tuple #[.agg #[.int .i64 n9, .int .i64 s9, .int .i64 a9, .int .i64 b9, .bool g9, .string (text t9), .int .i64 d9, .int .i64 e9], .int .i64 f9] := hI.2.1 15 (by decide) (by simp only [hn])
                  simp only [flowAct, List.zipWith_cons_cons, List.zipWith_nil_left]
                  simp only [e15]
                  go_wp2_with (fail)
                  exact ⟨rfl, _, rfl, hI.set HGS.out 16 (by decide) (Below.refl _ _) rfl⟩
                · intro LL xs W hI hL hn
                  simp [invNeeds, Region.binds] at hn
                  have e15 : xs 15 = .tuple #[.agg #[.int .i64 n9, .int .i64 s9, .int .i64 a9, .int .i64 b9, .bool g9, .string (text t9), .int .i64 d9, .int .i64 e9], .int .i64 f9] := hI.2.1 15 (by decide) (by simp only [hn])
                  simp only [flowAct, List.zipWith_cons_cons, List.zipWith_nil_left]
                  simp only [e15]
                  go_wp2_with (fail)
                  exact ⟨rfl, _, rfl, hI.set HGS.out 17 (by decide) (Below.refl _ _) rfl⟩
                · intro LL xs W hI hL hn
                  simp only [flowAct, List.zipWith_cons_cons, List.zipWith_nil_left]
                  go_wp2_with (fail)
                  exact ⟨rfl, _, rfl, hI.alloc HGS.out 0 (by decide) rfl hL⟩
                · intro LL xs W hI hL hn
                  simp [invNeeds, Region.binds] at hn
                  obtain ⟨hk, hv⟩ : LL 18 = true ∧ LL 16 = true := by simp only [hn, and_self]
                  obtain ⟨g5, cs5, eg, lg, hgc, hz5⟩ := hI.2.2.1 0 (by decide) hk
                  rw [if_neg (by rw [show LL (18 + 1 + 0) = false from hL]; decide)] at hz5
                  subst hz5
                  have e0 : xs 16 = .agg #[.int .i64 n9, .int .i64 s9, .int .i64 a9, .int .i64 b9, .bool g9, .string (text t9), .int .i64 d9, .int .i64 e9] := hI.2.1 16 (by decide) hv
                  have e1 : xs 18 = .pointer (some ⟨g5, 0, none⟩) := eg
                  have hc5 : Cel W g5 0 0 0 0 false [] 0 0 := hgc
                  obtain ⟨p0, p1, p2, p3, p4, p5, p6, p7⟩ := hc5.cs
                  have pfz := hc5.fz
                  simp only [flowAct, List.zipWith_cons_cons, List.zipWith_nil_left]
                  simp only [e0, e1]
                  go_wp2_with (fail)
                  exact ⟨rfl, undef, rfl, hI.store HGS.out 0 (by decide) rfl rfl hk eg rfl (Wrote.cell8 hc5 n9 s9 a9 b9 g9 t9 d9 e9) undef⟩
                · intro LL xs W hI hL hn
                  simp [invNeeds, Region.binds] at hn
                  have e17 : xs 17 = .int .i64 f9 := hI.2.1 17 (by decide) (by simp only [hn])
                  simp only [flowAct, List.zipWith_cons_cons, List.zipWith_nil_left]
                  simp only [e17]
                  go_wp2_with (fail)
                  exact ⟨rfl, _, rfl, hI.other 20 (by decide) _⟩
              · intro LL xs W hI hall
                obtain ⟨hW, -, hP, -, -⟩ := hI
                obtain ⟨gx9, cs7, e7, l7, h7, g7⟩ := hP 0 (by decide) (hall 18 (by decide))
                rw [if_pos (hall (18 + 1 + 0) (by decide))] at g7
                have g7 : Value.agg cs7 = .agg #[.int .i64 n9, .int .i64 s9, .int .i64 a9, .int .i64 b9, .bool g9, .string (text t9), .int .i64 d9, .int .i64 e9] := g7
                injection g7 with g7
                subst g7
                clear g7
                replace e7 : xs 18 = _ := e7
                clear hP hall
                simp only [flowAct, List.zipWith_cons_cons, List.zipWith_nil_left]
                simp only [e7]
                have hbk := HB8.out.trans (hW.mono HB8.out.size)
                have hrk := heap_below HR8.out hW
                have hsk := heap_below HS8.out hW
                have hok := HO8.out.kept hW
                have hoc := HOC8.out.kept hW
                have hlc := fun W' (h : Below W.heap.size W W') => HLC8.out W' (hW.trans (h.mono hW.size))
                have hce : Cel W gx9 n9 s9 a9 b9 g9 t9 d9 e9 := h7
                clear e7 h7 hW HGS HGT
                obtain ⟨WK, hWK⟩ : ∃ X, W = X := ⟨_, rfl⟩
                rw [hWK] at hbk hrk hsk hok hoc hlc hce ⊢
                clear hWK HB8 HR8 HS8 HO8 HOC8 HLC8
                have HB7 := Lib.hid hbk
                have HR7 := Lib.hid hrk
                have HS7 := Lib.hid hsk
                have HO7 := Lib.hid hok
                have HOC7 := Lib.hid hoc
                have HLC7 := Lib.hid hlc
                have HCE := Lib.hid hce
                clear hbk hrk hsk hok hoc hlc hce
                go_upto_region 12 with (fail)
                refine wp_region_flow_tail 10 [none, none, none, none, none, none, none, none, none, none, none, none, none, none, none, none, none, none, none, none, none, none, none, none, none, none, none, none, none, none, none, none, none, none, none, none, none, none, none, none, none, none, none, none, none, none, none, none, none, none, none, none, none, none, none, none, none, none, none, none, none, none, none, none, none, none, none, none, none, none, none, some 0, some 1, some 2, some 3, some 4, some 5, some 6, some 7, some 8, some 9, none, none, none] (fun i => [u71, u72, u73, u74, u75, u76, u77, u78, u79, u80].getD i undef) [(fun v _ => v = .slice (some ⟨br9, offr9, none⟩) M9 ct'), (fun v _ => v = .slice (some ⟨br9, offr9, none⟩) M9 ct'), (fun v _ => v = .int .i64 (M9 : Int)), (fun v _ => v = .int .i64 (((p + 1) : Nat) : Int)), (fun v _ => v = .pointer (some ⟨br9, offr9 + (p + 1) * 2, none⟩)), (fun v _ => v = .pointer (some ⟨br9, offr9 + (p + 1) * 2 + 1, none⟩)), (fun v _ => v = .slice (some ⟨gc, 0, none⟩) n1 cc), (fun v _ => v = .pointer (some ⟨gw, 1, none⟩)), (fun v _ => v = .int .i64 (ii : Int)), (fun v _ => v = .agg #[.int .i64 n9, .int .i64 s9, .int .i64 a9, .int .i64 b9, .bool g9, .string (text t9), .int .i64 d9, .int .i64 e9])] (fun _ => False) (by kernel_rfl) (by kernel_rfl) (by kernel_rfl) rfl rfl rfl ?_ ?_ ?_
                · intro g hg v X Y hX hY hv
                  simp only [List.mem_cons, List.not_mem_nil, or_false] at hg
                  rcases hg with rfl | rfl | rfl | rfl | rfl | rfl | rfl | rfl | rfl | rfl
                  all_goals first
                    | exact hv
                    | exact hv.kept hY
                · simp only [flowOpsF, List.take_succ_cons, List.take_zero, and_true]
                  refine ⟨?_, ?_, ?_, ?_, ?_, ?_, ?_, ?_, ?_, ?_⟩
                  · intro xs W hW hn
                    simp only [flowAct, List.zipWith_cons_cons, List.zipWith_nil_left]
                    go_wp2_with (fail)
                    exact ⟨rfl, _, rfl, Below.refl _ _, rfl, fun h => h.elim⟩
                  · intro xs W hW hn
                    simp only [flowAct, List.zipWith_cons_cons, List.zipWith_nil_left]
                    go_wp2_with (fail)
                    exact ⟨rfl, _, rfl, Below.refl _ _, rfl, fun h => h.elim⟩
                  · intro xs W hW hn
                    simp [flowNeeds, Region.binds] at hn
                    simp only [flowAct, List.zipWith_cons_cons, List.zipWith_nil_left]
                    try simp only [hn]
                    go_wp2_with (fail)
                    exact ⟨rfl, _, rfl, Below.refl _ _, rfl, fun h => h.elim⟩
                  · intro xs W hW hn
                    have hm9 := HM9.out
                    simp [flowNeeds, Region.binds] at hn
                    simp only [flowAct, List.zipWith_cons_cons, List.zipWith_nil_left]
                    simp only [hn]
                    go_wp2_with (fail)
                    exact ⟨rfl, _, rfl, Below.refl _ _, by first | rfl | go_num, fun h => h.elim⟩
                  · intro xs W hW hn
                    simp [flowNeeds, Region.binds] at hn
                    simp only [flowAct, List.zipWith_cons_cons, List.zipWith_nil_left]
                    try simp only [hn]
                    go_wp2_with (fail)
                    exact ⟨rfl, _, rfl, Below.refl _ _, rfl, fun h => h.elim⟩
                  · intro xs W hW hn
                    simp [flowNeeds, Region.binds] at hn
                    simp only [flowAct, List.zipWith_cons_cons, List.zipWith_nil_left]
                    try simp only [hn]
                    go_wp2_with (fail)
                    exact ⟨rfl, _, rfl, Below.refl _ _, rfl, fun h => h.elim⟩
                  · intro xs W hW hn
                    obtain ⟨r0, r1⟩ := HLC7.out W hW
                    simp [flowNeeds, Region.binds] at hn
                    simp only [flowAct, List.zipWith_cons_cons, List.zipWith_nil_left]
                    try simp only [hn]
                    go_wp2_with (fail)
                    exact ⟨rfl, _, rfl, Below.refl _ _, rfl, fun h => h.elim⟩
                  · intro xs W hW hn
                    simp only [flowAct, List.zipWith_cons_cons, List.zipWith_nil_left]
                    go_wp2_with (fail)
                    exact ⟨rfl, _, rfl, Below.refl _ _, rfl, fun h => h.elim⟩
                  · intro xs W hW hn
                    obtain ⟨w0, w1, w2, w3⟩ := wr_cells (heap_below HS7.out hW)
                    simp [flowNeeds, Region.binds] at hn
                    simp only [flowAct, List.zipWith_cons_cons, List.zipWith_nil_left]
                    try simp only [hn]
                    go_wp2_with (fail)
                    exact ⟨rfl, _, rfl, Below.refl _ _, rfl, fun h => h.elim⟩
                  · intro xs W hW hn
                    obtain ⟨p0, p1, p2, p3, p4, p5, p6, p7⟩ := (HCE.out.kept hW).cs
                    simp only [flowAct, List.zipWith_cons_cons, List.zipWith_nil_left]
                    go_wp2_with (fail)
                    exact ⟨rfl, _, rfl, Below.refl _ _, rfl, fun h => h.elim⟩
                · intro xs W hW hall hfr
                  clear hfr
                  simp only [flowAll, and_true, Nat.zero_add, Nat.reduceAdd] at hall
                  obtain ⟨-, -, -, -, -, -, y6, -, y8, y9⟩ := hall
                  simp only [flowAct, List.zipWith_cons_cons, List.zipWith_nil_left, List.drop_succ_cons, List.drop_zero]
                  simp only [y6, y8, y9]
                  have HBx := Lib.hid (HB7.out.trans (hW.mono HB7.out.size))
                  have HRx := Lib.hid (heap_below HR7.out hW)
                  have HOx := Lib.hid (HO7.out.kept hW)
                  have HOCx := Lib.hid (HOC7.out.kept hW)
                  have hlk : ii < CS.length := by have := HCS8.out; omega
                  have HLK := Lib.hid hlk
                  have pfz := own_fz HOCx.out
                  obtain ⟨p0, p1, p2, p3, p4, p5, p6, p7⟩ := own_at HOCx.out hlk _ (Below.refl _ _)
                  clear y6 y8 y9 hW hlk
                  go_wp2
                  go_roundw
                  case rel => exact ⟨k + 1, _, LT.set (p + 1) ⟨kx, .slice (some ⟨gc, 0, none⟩) n1 cc, CS.set ii ⟨n9, s9, a9, b9, g9, t9, d9, e9⟩⟩, by omega, by go_num, rfl, (by have hst := OwnRw.store HOx.out (j := (p + 1)) (by rw [HTL.out]; omega) (by rw [HLPn.out]; exact put_only (k := ii) n9 s9 a9 b9 g9 t9 d9 e9) (by rw [HLPn.out]; exact own_put HOCx.out HLK.out n9 s9 a9 b9 g9 t9 d9 e9) (by rw [List.length_set]; exact HCS8.out) hn0; rw [HLPn.out] at hst; exact hst), HPUT.out, cells_put_below (k := ii) HBx.out HGC.out n9 s9 a9 b9 g9 t9 d9 e9, ((put_only (g := gc) (m := n1) (c := cc) (k := ii) n9 s9 a9 b9 g9 t9 d9 e9).rest B (own_ne HRx.out (by decide) HOCx.out)).trans HRx.out⟩
                  case measure => simp [intOf]; omega
            | true =>
              obtain rfl : kx = kl := by have h9 := HQ9.out; exact (by simpa using h9 : kx = kl)
              have HGC := Lib.hid hgcB
              have HPUT := Lib.hid (show (L.set p (⟨kx, .slice (some ⟨gc, 0, none⟩) n1 cc, csl.set ii ⟨n9, s9, a9, b9, g9, t9, d9, e9⟩⟩ : Rw)).map Rw.pr = wrowN gs n s a b l (k + 1) by
                have h := put_old (n1 := n1) (L := L) (R := L.map Rw.pr) (k := kx) (i := ii) (x := ⟨n9, s9, a9, b9, g9, t9, d9, e9⟩) rfl HLL.out (by rw [HLP.out])
                rw [HLP.out] at h
                rw [HN.out]; exact h)
              obtain ⟨LT, hLT⟩ : ∃ z, L = z := ⟨_, rfl⟩
              rw [hLT] at HLL HOT HLP HPUT
              have HTL := Lib.hid HLL.out
              have HB8 := Lib.hid HBT.out
              have HR8 := Lib.hid HRT.out
              have HS8 := Lib.hid HST.out
              have HO8 := Lib.hid HOT.out
              have HOC8 := Lib.hid HOCT.out
              have HLC8 := Lib.hid HLCT.out
              have HCS8 := Lib.hid HCS.out
              obtain ⟨CS, hCS⟩ : ∃ z, csl = z := ⟨_, rfl⟩
              rw [hCS] at HLP HPUT HOC8 HCS8
              clear hCS hLT HBT HRT HST HOT HOCT HLCT HOC HLC HCS
              go_upto_region 11 with (fail)
              obtain ⟨M9, hM9⟩ : ∃ z, p + 1 = z := ⟨_, rfl⟩
              rw [hM9] at HO8 hct1 ⊢
              have HM9 := Lib.hid (show (M9 : Int) - 1 = ((p : Nat) : Int) by omega)
              have hM8 : ((p : Nat) : Int) < (M9 : Int) := by omega
              have hM7 : ((p : Nat) : Int) < (cl : Int) := by omega
              have HMM := Lib.hid hM9
              clear hM9
              have HGS := Lib.hid (show GSt 67 (fun i v _ => v = [.slice (some ⟨bg, og, none⟩) n1 cap, .pointer (some ⟨gw, 1, none⟩), .int .i64 (ii : Int), .pointer (some ⟨bg, og + ii * 2, none⟩), .pointer (some ⟨bg, og + ii * 2 + 1, none⟩), .int .i64 pk, .pointer (some ⟨B, 2, none⟩), .agg #[.int .i64 n, .int .i64 s], .pointer (some ⟨B, 4, none⟩), .agg #[.int .i64 a, .int .i64 b], .pointer (some ⟨gw, 2, none⟩), .bool gx, .pointer (some ⟨gw, 3, none⟩), .string (text vx), .tuple #[.agg #[.int .i64 n9, .int .i64 s9, .int .i64 a9, .int .i64 b9, .bool g9, .string (text t9), .int .i64 d9, .int .i64 e9], .int .i64 f9], .tuple #[.agg #[.int .i64 n9, .int .i64 s9, .int .i64 a9, .int .i64 b9, .bool g9, .string (text t9), .int .i64 d9, .int .i64 e9], .int .i64 f9], .agg #[.int .i64 n9, .int .i64 s9, .int .i64 a9, .int .i64 b9, .bool g9, .string (text t9), .int .i64 d9, .int .i64 e9], .int .i64 f9].getD i undef) from ⟨fun i v X Y h _ => h, fun i v X Y q cs ds _ _ h => h⟩)
              refine wp_region_inv [none, none, none, none, none, none, none, none, none, none, none, none, some 18, some 20, none, none, none, none, none, none, none, none, none, none, none, none, none, none, none, none, none, none, none, none, none, none, none, none, none, none, none, none, none, none, none, none, none, none, none, none, none, none, none, some 15, some 0, some 1, some 2, some 3, some 4, some 5, some 6, some 7, some 8, some 9, some 10, some 11, some 12, some 13, some 14, some 16, some 17, none, none, none, none, none, none, none, none, none, none, none, none, none] (fun i => [u54, u55, u56, u57, u58, u59, u60, u61, u62, u63, u64, u65, u66, u67, u68, u53, u69, u70, u12, undef, u13].getD i undef) (LayG 18 1 67 #[.int .i64 0, .int .i64 0, .int .i64 0, .int .i64 0, .bool false, .string ⟨#[]⟩, .int .i64 0, .int .i64 0] (fun i v _ => v = [.slice (some ⟨bg, og, none⟩) n1 cap, .pointer (some ⟨gw, 1, none⟩), .int .i64 (ii : Int), .pointer (some ⟨bg, og + ii * 2, none⟩), .pointer (some ⟨bg, og + ii * 2 + 1, none⟩), .int .i64 pk, .pointer (some ⟨B, 2, none⟩), .agg #[.int .i64 n, .int .i64 s], .pointer (some ⟨B, 4, none⟩), .agg #[.int .i64 a, .int .i64 b], .pointer (some ⟨gw, 2, none⟩), .bool gx, .pointer (some ⟨gw, 3, none⟩), .string (text vx), .tuple #[.agg #[.int .i64 n9, .int .i64 s9, .int .i64 a9, .int .i64 b9, .bool g9, .string (text t9), .int .i64 d9, .int .i64 e9], .int .i64 f9], .tuple #[.agg #[.int .i64 n9, .int .i64 s9, .int .i64 a9, .int .i64 b9, .bool g9, .string (text t9), .int .i64 d9, .int .i64 e9], .int .i64 f9], .agg #[.int .i64 n9, .int .i64 s9, .int .i64 a9, .int .i64 b9, .bool g9, .string (text t9), .int .i64 d9, .int .i64 e9], .int .i64 f9].getD i undef) (fun _ => 16) WK) (by kernel_rfl) (by kernel_rfl) rfl rfl (fun LL hL => LayG.start fun i hi => hL i (Nat.lt_of_lt_of_le hi (by decide))) ?_ ?_
              · simp only [invOps, and_true]
                refine ⟨?_, ?_, ?_, ?_, ?_, ?_, ?_, ?_, ?_, ?_, ?_, ?_, ?_, ?_, ?_, ?_, ?_, ?_, ?_, ?_, ?_⟩
                · intro LL xs W hI hL hn
                  simp only [flowAct, List.zipWith_cons_cons, List.zipWith_nil_left]
                  go_wp2_with (fail)
                  exact ⟨rfl, _, rfl, hI.set HGS.out 0 (by decide) (Below.refl _ _) rfl⟩
                · intro LL xs W hI hL hn
                  simp only [flowAct, List.zipWith_cons_cons, List.zipWith_nil_left]
                  go_wp2_with (fail)
                  exact ⟨rfl, _, rfl, hI.set HGS.out 1 (by decide) (Below.refl _ _) rfl⟩
                · intro LL xs W hI hL hn
                  obtain ⟨w0, w1, w2, w3⟩ := wr_cells (heap_below HS8.out hI.below)
                  simp [invNeeds, Region.binds] at hn
                  have e1 : xs 1 = .pointer (some ⟨gw, 1, none⟩) := hI.2.1 1 (by decide) (by simp only [hn])
                  simp only [flowAct, List.zipWith_cons_cons, List.zipWith_nil_left]
                  simp only [e1]
                  go_wp2_with (fail)
                  exact ⟨rfl, _, rfl, hI.set HGS.out 2 (by decide) (Below.refl _ _) rfl⟩
                · intro LL xs W hI hL hn
                  simp [invNeeds, Region.binds] at hn
                  have e0 : xs 0 = .slice (some ⟨bg, og, none⟩) n1 cap := hI.2.1 0 (by decide) (by simp only [hn])
                  have e2 : xs 2 = .int .i64 (ii : Int) := hI.2.1 2 (by decide) (by simp only [hn])
                  simp only [flowAct, List.zipWith_cons_cons, List.zipWith_nil_left]
                  simp only [e0, e2]
                  go_wp2_with (fail)
                  exact ⟨rfl, _, rfl, hI.set HGS.out 3 (by decide) (Below.refl _ _) rfl⟩
                · intro LL xs W hI hL hn
                  simp [invNeeds, Region.binds] at hn
                  have e3 : xs 3 = .pointer (some ⟨bg, og + ii * 2, none⟩) := hI.2.1 3 (by decide) (by simp only [hn])
                  simp only [flowAct, List.zipWith_cons_cons, List.zipWith_nil_left]
                  simp only [e3]
                  go_wp2_with (fail)
                  exact ⟨rfl, _, rfl, hI.set HGS.out 4 (by decide) (Below.refl _ _) rfl⟩
                · intro LL xs W hI hL hn
                  obtain ⟨g0, g1⟩ := HGT.out W (HB8.out.trans (hI.below.mono HB8.out.size))
                  simp [invNeeds, Region.binds] at hn
                  have e4 : xs 4 = .pointer (some ⟨bg, og + ii * 2 + 1, none⟩) := hI.2.1 4 (by decide) (by simp only [hn])
                  simp only [flowAct, List.zipWith_cons_cons, List.zipWith_nil_left]
                  simp only [e4]
                  go_wp2_with (fail)
                  exact ⟨rfl, _, rfl, hI.set HGS.out 5 (by decide) (Below.refl _ _) rfl⟩
                · intro LL xs W hI hL hn
                  simp only [flowAct, List.zipWith_cons_cons, List.zipWith_nil_left]
                  go_wp2_with (fail)
                  exact ⟨rfl, _, rfl, hI.set HGS.out 6 (by decide) (Below.refl _ _) rfl⟩
                · intro LL xs W hI hL hn
                  obtain ⟨c0, c1, c2, c3, c4, c5, c6⟩ := ch_cells (heap_below HR8.out hI.below)
                  simp [invNeeds, Region.binds] at hn
                  have e6 : xs 6 = .pointer (some ⟨B, 2, none⟩) := hI.2.1 6 (by decide) (by simp only [hn])
                  simp only [flowAct, List.zipWith_cons_cons, List.zipWith_nil_left]
                  simp only [e6]
                  go_wp2_with (fail)
                  exact ⟨rfl, _, rfl, hI.set HGS.out 7 (by decide) (Below.refl _ _) rfl⟩
                · intro LL xs W hI hL hn
                  simp only [flowAct, List.zipWith_cons_cons, List.zipWith_nil_left]
                  go_wp2_with (fail)
                  exact ⟨rfl, _, rfl, hI.set HGS.out 8 (by decide) (Below.refl _ _) rfl⟩
                · intro LL xs W hI hL hn
                  obtain ⟨c0, c1, c2, c3, c4, c5, c6⟩ := ch_cells (heap_below HR8.out hI.below)
                  simp [invNeeds, Region.binds] at hn
                  have e8 : xs 8 = .pointer (some ⟨B, 4, none⟩) := hI.2.1 8 (by decide) (by simp only [hn])
                  simp only [flowAct, List.zipWith_cons_cons, List.zipWith_nil_left]
                  simp only [e8]
                  go_wp2_with (fail)
                  exact ⟨rfl, _, rfl, hI.set HGS.out 9 (by decide) (Below.refl _ _) rfl⟩
                · intro LL xs W hI hL hn
                  simp only [flowAct, List.zipWith_cons_cons, List.zipWith_nil_left]
                  go_wp2_with (fail)
                  exact ⟨rfl, _, rfl, hI.set HGS.out 10 (by decide) (Below.refl _ _) rfl⟩
                · intro LL xs W hI hL hn
                  obtain ⟨w0, w1, w2, w3⟩ := wr_cells (heap_below HS8.out hI.below)
                  simp [invNeeds, Region.binds] at hn
                  have e10 : xs 10 = .pointer (some ⟨gw, 2, none⟩) := hI.2.1 10 (by decide) (by simp only [hn])
                  simp only [flowAct, List.zipWith_cons_cons, List.zipWith_nil_left]
                  simp only [e10]
                  go_wp2_with (fail)
                  exact ⟨rfl, _, rfl, hI.set HGS.out 11 (by decide) (Below.refl _ _) rfl⟩
                · intro LL xs W hI hL hn
                  simp only [flowAct, List.zipWith_cons_cons, List.zipWith_nil_left]
                  go_wp2_with (fail)
                  exact ⟨rfl, _, rfl, hI.set HGS.out 12 (by decide) (Below.refl _ _) rfl⟩
                · intro LL xs W hI hL hn
                  obtain ⟨w0, w1, w2, w3⟩ := wr_cells (heap_below HS8.out hI.below)
                  simp [invNeeds, Region.binds] at hn
                  have e12 : xs 12 = .pointer (some ⟨gw, 3, none⟩) := hI.2.1 12 (by decide) (by simp only [hn])
                  simp only [flowAct, List.zipWith_cons_cons, List.zipWith_nil_left]
                  simp only [e12]
                  go_wp2_with (fail)
                  exact ⟨rfl, _, rfl, hI.set HGS.out 13 (by decide) (Below.refl _ _) rfl⟩
                · intro LL xs W hI hL hn
                  simp [invNeeds, Region.binds] at hn
                  have e5 : xs 5 = .int .i64 pk := hI.2.1 5 (by decide) (by simp only [hn])
                  have e7 : xs 7 = .agg #[.int .i64 n, .int .i64 s] := hI.2.1 7 (by decide) (by simp only [hn])
                  have e9 : xs 9 = .agg #[.int .i64 a, .int .i64 b] := hI.2.1 9 (by decide) (by simp only [hn])
                  have e11 : xs 11 = .bool gx := hI.2.1 11 (by decide) (by simp only [hn])
                  have e13 : xs 13 = .string (text vx) := hI.2.1 13 (by decide) (by simp only [hn])
                  simp only [flowAct, List.zipWith_cons_cons, List.zipWith_nil_left]
                  simp only [e5, e7, e9, e11, e13]
                  go_wp2_with (go_at_call 30; (with_reducible refine (HCO.out _).mono ?_); rintro e9 w9 ⟨rfl, hb9⟩)
                  exact ⟨rfl, _, rfl, hI.set HGS.out 14 (by decide) hb9 rfl⟩
                · intro LL xs W hI hL hn
                  simp [invNeeds, Region.binds] at hn
                  have e14 : xs 14 = .tuple #[.agg #[.int .i64 n9, .int .i64 s9, .int .i64 a9, .int .i64 b9, .bool g9, .string (text t9), .int .i64 d9, .int .i64 e9], .int .i64 f9] := hI.2.1 14 (by decide) (by simp only [hn])
                  simp only [flowAct, List.zipWith_cons_cons, List.zipWith_nil_left]
                  simp only [e14]
                  go_wp2_with (fail)
                  exact ⟨rfl, _, rfl, hI.set HGS.out 15 (by decide) (Below.refl _ _) rfl⟩
                · intro LL xs W hI hL hn
                  simp [invNeeds, Region.binds] at hn
                  have e15 : xs 15 = .tuple #[.agg #[.int .i64 n9, .int .i64 s9, .int .i64 a9, .int .i64 b9, .bool g9, .string (text t9), .int .i64 d9, .int .i64 e9], .int .i64 f9] := hI.2.1 15 (by decide) (by simp only [hn])
                  simp only [flowAct, List.zipWith_cons_cons, List.zipWith_nil_left]
                  simp only [e15]
                  go_wp2_with (fail)
                  exact ⟨rfl, _, rfl, hI.set HGS.out 16 (by decide) (Below.refl _ _) rfl⟩
                · intro LL xs W hI hL hn
                  simp [invNeeds, Region.binds] at hn
                  have e15 : xs 15 = .tuple #[.agg #[.int .i64 n9, .int .i64 s9, .int .i64 a9, .int .i64 b9, .bool g9, .string (text t9), .int .i64 d9, .int .i64 e9], .int .i64 f9] := hI.2.1 15 (by decide) (by simp only [hn])
                  simp only [flowAct, List.zipWith_cons_cons, List.zipWith_nil_left]
                  simp only [e15]
                  go_wp2_with (fail)
                  exact ⟨rfl, _, rfl, hI.set HGS.out 17 (by decide) (Below.refl _ _) rfl⟩
                · intro LL xs W hI hL hn
                  simp only [flowAct, List.zipWith_cons_cons, List.zipWith_nil_left]
                  go_wp2_with (fail)
                  exact ⟨rfl, _, rfl, hI.alloc HGS.out 0 (by decide) rfl hL⟩
                · intro LL xs W hI hL hn
                  simp [invNeeds, Region.binds] at hn
                  obtain ⟨hk, hv⟩ : LL 18 = true ∧ LL 16 = true := by simp only [hn, and_self]
                  obtain ⟨g5, cs5, eg, lg, hgc, hz5⟩ := hI.2.2.1 0 (by decide) hk
                  rw [if_neg (by rw [show LL (18 + 1 + 0) = false from hL]; decide)] at hz5
                  subst hz5
                  have e0 : xs 16 = .agg #[.int .i64 n9, .int .i64 s9, .int .i64 a9, .int .i64 b9, .bool g9, .string (text t9), .int .i64 d9, .int .i64 e9] := hI.2.1 16 (by decide) hv
                  have e1 : xs 18 = .pointer (some ⟨g5, 0, none⟩) := eg
                  have hc5 : Cel W g5 0 0 0 0 false [] 0 0 := hgc
                  obtain ⟨p0, p1, p2, p3, p4, p5, p6, p7⟩ := hc5.cs
                  have pfz := hc5.fz
                  simp only [flowAct, List.zipWith_cons_cons, List.zipWith_nil_left]
                  simp only [e0, e1]
                  go_wp2_with (fail)
                  exact ⟨rfl, undef, rfl, hI.store HGS.out 0 (by decide) rfl rfl hk eg rfl (Wrote.cell8 hc5 n9 s9 a9 b9 g9 t9 d9 e9) undef⟩
                · intro LL xs W hI hL hn
                  simp [invNeeds, Region.binds] at hn
                  have e17 : xs 17 = .int .i64 f9 := hI.2.1 17 (by decide) (by simp only [hn])
                  simp only [flowAct, List.zipWith_cons_cons, List.zipWith_nil_left]
                  simp only [e17]
                  go_wp2_with (fail)
                  exact ⟨rfl, _, rfl, hI.other 20 (by decide) _⟩
              · intro LL xs W hI hall
                obtain ⟨hW, -, hP, -, -⟩ := hI
                obtain ⟨gx9, cs7, e7, l7, h7, g7⟩ := hP 0 (by decide) (hall 18 (by decide))
                rw [if_pos (hall (18 + 1 + 0) (by decide))] at g7
                have g7 : Value.agg cs7 = .agg #[.int .i64 n9, .int .i64 s9, .int .i64 a9, .int .i64 b9, .bool g9, .string (text t9), .int .i64 d9, .int .i64 e9] := g7
                injection g7 with g7
                subst g7
                clear g7
                replace e7 : xs 18 = _ := e7
                clear hP hall
                simp only [flowAct, List.zipWith_cons_cons, List.zipWith_nil_left]
                simp only [e7]
                have hbk := HB8.out.trans (hW.mono HB8.out.size)
                have hrk := heap_below HR8.out hW
                have hsk := heap_below HS8.out hW
                have hok := HO8.out.kept hW
                have hoc := HOC8.out.kept hW
                have hlc := fun W' (h : Below W.heap.size W W') => HLC8.out W' (hW.trans (h.mono hW.size))
                have hce : Cel W gx9 n9 s9 a9 b9 g9 t9 d9 e9 := h7
                clear e7 h7 hW HGS HGT
                obtain ⟨WK, hWK⟩ : ∃ X, W = X := ⟨_, rfl⟩
                rw [hWK] at hbk hrk hsk hok hoc hlc hce ⊢
                clear hWK HB8 HR8 HS8 HO8 HOC8 HLC8
                have HB7 := Lib.hid hbk
                have HR7 := Lib.hid hrk
                have HS7 := Lib.hid hsk
                have HO7 := Lib.hid hok
                have HOC7 := Lib.hid hoc
                have HLC7 := Lib.hid hlc
                have HCE := Lib.hid hce
                clear hbk hrk hsk hok hoc hlc hce
                go_upto_region 12 with (fail)
                refine wp_region_flow_tail 10 [none, none, none, none, none, none, none, none, none, none, none, none, none, none, none, none, none, none, none, none, none, none, none, none, none, none, none, none, none, none, none, none, none, none, none, none, none, none, none, none, none, none, none, none, none, none, none, none, none, none, none, none, none, none, none, none, none, none, none, none, none, none, none, none, none, none, none, none, none, none, none, some 0, some 1, some 2, some 3, some 4, some 5, some 6, some 7, some 8, some 9, none, none, none] (fun i => [u71, u72, u73, u74, u75, u76, u77, u78, u79, u80].getD i undef) [(fun v _ => v = .slice (some ⟨br, offr, none⟩) M9 cl), (fun v _ => v = .slice (some ⟨br, offr, none⟩) M9 cl), (fun v _ => v = .int .i64 (M9 : Int)), (fun v _ => v = .int .i64 ((p : Nat) : Int)), (fun v _ => v = .pointer (some ⟨br, offr + p * 2, none⟩)), (fun v _ => v = .pointer (some ⟨br, offr + p * 2 + 1, none⟩)), (fun v _ => v = .slice (some ⟨gc, 0, none⟩) n1 cc), (fun v _ => v = .pointer (some ⟨gw, 1, none⟩)), (fun v _ => v = .int .i64 (ii : Int)), (fun v _ => v = .agg #[.int .i64 n9, .int .i64 s9, .int .i64 a9, .int .i64 b9, .bool g9, .string (text t9), .int .i64 d9, .int .i64 e9])] (fun _ => False) (by kernel_rfl) (by kernel_rfl) (by kernel_rfl) rfl rfl rfl ?_ ?_ ?_
                · intro g hg v X Y hX hY hv
                  simp only [List.mem_cons, List.not_mem_nil, or_false] at hg
                  rcases hg with rfl | rfl | rfl | rfl | rfl | rfl | rfl | rfl | rfl | rfl
                  all_goals first
                    | exact hv
                    | exact hv.kept hY
                · simp only [flowOpsF, List.take_succ_cons, List.take_zero, and_true]
                  refine ⟨?_, ?_, ?_, ?_, ?_, ?_, ?_, ?_, ?_, ?_⟩
                  · intro xs W hW hn
                    simp only [flowAct, List.zipWith_cons_cons, List.zipWith_nil_left]
                    go_wp2_with (fail)
                    exact ⟨rfl, _, rfl, Below.refl _ _, rfl, fun h => h.elim⟩
                  · intro xs W hW hn
                    simp only [flowAct, List.zipWith_cons_cons, List.zipWith_nil_left]
                    go_wp2_with (fail)
                    exact ⟨rfl, _, rfl, Below.refl _ _, rfl, fun h => h.elim⟩
                  · intro xs W hW hn
                    simp [flowNeeds, Region.binds] at hn
                    simp only [flowAct, List.zipWith_cons_cons, List.zipWith_nil_left]
                    try simp only [hn]
                    go_wp2_with (fail)
                    exact ⟨rfl, _, rfl, Below.refl _ _, rfl, fun h => h.elim⟩
                  · intro xs W hW hn
                    have hm9 := HM9.out
                    simp [flowNeeds, Region.binds] at hn
                    simp only [flowAct, List.zipWith_cons_cons, List.zipWith_nil_left]
                    simp only [hn]
                    go_wp2_with (fail)
                    exact ⟨rfl, _, rfl, Below.refl _ _, by first | rfl | go_num, fun h => h.elim⟩
                  · intro xs W hW hn
                    simp [flowNeeds, Region.binds] at hn
                    simp only [flowAct, List.zipWith_cons_cons, List.zipWith_nil_left]
                    try simp only [hn]
                    go_wp2_with (fail)
                    exact ⟨rfl, _, rfl, Below.refl _ _, rfl, fun h => h.elim⟩
                  · intro xs W hW hn
                    simp [flowNeeds, Region.binds] at hn
                    simp only [flowAct, List.zipWith_cons_cons, List.zipWith_nil_left]
                    try simp only [hn]
                    go_wp2_with (fail)
                    exact ⟨rfl, _, rfl, Below.refl _ _, rfl, fun h => h.elim⟩
                  · intro xs W hW hn
                    obtain ⟨r0, r1⟩ := HLC7.out W hW
                    simp [flowNeeds, Region.binds] at hn
                    simp only [flowAct, List.zipWith_cons_cons, List.zipWith_nil_left]
                    try simp only [hn]
                    go_wp2_with (fail)
                    exact ⟨rfl, _, rfl, Below.refl _ _, rfl, fun h => h.elim⟩
                  · intro xs W hW hn
                    simp only [flowAct, List.zipWith_cons_cons, List.zipWith_nil_left]
                    go_wp2_with (fail)
                    exact ⟨rfl, _, rfl, Below.refl _ _, rfl, fun h => h.elim⟩
                  · intro xs W hW hn
                    obtain ⟨w0, w1, w2, w3⟩ := wr_cells (heap_below HS7.out hW)
                    simp [flowNeeds, Region.binds] at hn
                    simp only [flowAct, List.zipWith_cons_cons, List.zipWith_nil_left]
                    try simp only [hn]
                    go_wp2_with (fail)
                    exact ⟨rfl, _, rfl, Below.refl _ _, rfl, fun h => h.elim⟩
                  · intro xs W hW hn
                    obtain ⟨p0, p1, p2, p3, p4, p5, p6, p7⟩ := (HCE.out.kept hW).cs
                    simp only [flowAct, List.zipWith_cons_cons, List.zipWith_nil_left]
                    go_wp2_with (fail)
                    exact ⟨rfl, _, rfl, Below.refl _ _, rfl, fun h => h.elim⟩
                · intro xs W hW hall hfr
                  clear hfr
                  simp only [flowAll, and_true, Nat.zero_add, Nat.reduceAdd] at hall
                  obtain ⟨-, -, -, -, -, -, y6, -, y8, y9⟩ := hall
                  simp only [flowAct, List.zipWith_cons_cons, List.zipWith_nil_left, List.drop_succ_cons, List.drop_zero]
                  simp only [y6, y8, y9]
                  have HBx := Lib.hid (HB7.out.trans (hW.mono HB7.out.size))
                  have HRx := Lib.hid (heap_below HR7.out hW)
                  have HOx := Lib.hid (HO7.out.kept hW)
                  have HOCx := Lib.hid (HOC7.out.kept hW)
                  have hlk : ii < CS.length := by have := HCS8.out; omega
                  have HLK := Lib.hid hlk
                  have pfz := own_fz HOCx.out
                  obtain ⟨p0, p1, p2, p3, p4, p5, p6, p7⟩ := own_at HOCx.out hlk _ (Below.refl _ _)
                  clear y6 y8 y9 hW hlk
                  go_wp2
                  go_roundw
                  case rel => exact ⟨k + 1, _, LT.set p ⟨kx, .slice (some ⟨gc, 0, none⟩) n1 cc, CS.set ii ⟨n9, s9, a9, b9, g9, t9, d9, e9⟩⟩, by omega, by go_num, rfl, (by have hst := OwnRw.store HOx.out (j := p) (by rw [HTL.out]; omega) (by rw [HLP.out]; exact put_only (k := ii) n9 s9 a9 b9 g9 t9 d9 e9) (by rw [HLP.out]; exact own_put HOCx.out HLK.out n9 s9 a9 b9 g9 t9 d9 e9) (by rw [List.length_set]; exact HCS8.out) hn0; rw [HLP.out] at hst; exact hst), HPUT.out, cells_put_below (k := ii) HBx.out HGC.out n9 s9 a9 b9 g9 t9 d9 e9, ((put_only (g := gc) (m := n1) (c := cc) (k := ii) n9 s9 a9 b9 g9 t9 d9 e9).rest B (own_ne HRx.out (by decide) HOCx.out)).trans HRx.out⟩
                  case measure => simp [intOf]; omega
            
      · obtain rfl : m = k := by omega
        go_wp2
        go_ret2
        exact ⟨_, L, by rw [HRR.out]; rfl, HO.out, by rw [HRR.out]; exact HPR.out, HBr.out⟩
  · have h0n : (R != 0) = true := by simpa using h0
    have HRR := Lib.hid (HQ.out h0)
    go_wp2_with (go_at_call 13; (with_reducible refine (HGD.out _ HB1.out).mono ?_); rintro e9 w2 ⟨rfl, hb2⟩)
    go_ret2
    exact ⟨.slice none 0 0, [], by rw [HRR.out]; rfl, OwnRw.nil _ _ _, by rw [HRR.out]; rfl, HB1.out.trans (hb2.mono HB1.out.size)⟩
end Go.Proofs.YtfkmfccdhmnllaaDoor
end

section
namespace Go.Proofs.YtfkmfccdhmnllaaDoor
open Go.RowKit Go Go.Sort
set_option linter.unusedVariables false
set_option maxRecDepth 20000

/-- Places, compared. -/
def plEq (k : List UInt8) (i : Int) (k' : List UInt8) (i' : Int) : Bool := decide (k = k') && (i == i')
theorem pl_eqIn (k : List UInt8) (i : Int) (k' : List UInt8) (i' : Int) (W : World) : (Op.equalIn 10000 88 (.agg #[.string (text k), .int .i64 i]) (.agg #[.string (text k'), .int .i64 i'])).run Tryd.prog W = .ok (plEq k i k' i') W := by
  rw [run_equalIn_struct W 9999 _ _ _ Tryd.underlying88 (by kernel_rfl)]
  obtain ⟨f0, f1, hf, h0, h1, t0, t1, n0, n1⟩ : ∃ f0 f1, (Tryd.prog.fieldsOf 88).toList = [f0, f1] ∧ f0.offset = 0 ∧ f1.offset = 1 ∧ f0.type = 9 ∧ f1.type = 3 ∧ f0.name ≠ "_" ∧ f1.name ≠ "_" := ⟨_, _, rfl, rfl, rfl, rfl, rfl, by decide, by decide⟩
  rw [hf]
  obtain ⟨xs, hxs⟩ : ∃ xs : Array Value, #[.string (text k), .int .i64 i] = xs := ⟨_, rfl⟩
  obtain ⟨ys, hys⟩ : ∃ ys : Array Value, #[.string (text k'), .int .i64 i'] = ys := ⟨_, rfl⟩
  have p0 := run_part_plain (P := Tryd.prog) (e := 9) W (by kernel_rfl) (xs := xs) (off := 0) (v := .string (text k)) (by rw [← hxs]; rfl)
  have p1 := run_part_plain (P := Tryd.prog) (e := 3) W (by kernel_rfl) (xs := xs) (off := 1) (v := .int .i64 i) (by rw [← hxs]; rfl)
  have q0 := run_part_plain (P := Tryd.prog) (e := 9) W (by kernel_rfl) (xs := ys) (off := 0) (v := .string (text k')) (by rw [← hys]; rfl)
  have q1 := run_part_plain (P := Tryd.prog) (e := 3) W (by kernel_rfl) (xs := ys) (off := 1) (v := .int .i64 i') (by rw [← hys]; rfl)
  have hk : ((text k).toList == (text k').toList) = decide (k = k') := by rw [text_toList, text_toList, Bool.eq_iff_iff]; simp
  have e0 := run_equalIn_string W 9998 9 (text k) (text k') Tryd.underlying9
  have e1 := run_equalIn_int W 9998 3 .i64 .i64 i i' Tryd.underlying3
  rw [hk] at e0
  simp only [Nat.reduceAdd] at e0 e1
  rw [hxs, hys]
  unfold plEq
  clear hxs hys hk hf
  generalize decide (k = k') = r0 at *
  generalize (i == i') = r1 at *
  cases r0 <;> cases r1 <;> simp [Op.eqFields, n0, n1, h0, h1, t0, t1, p0, q0, p1, q1, e0, e1, Sem.run_bind, Result.andThen_ok]
theorem pl_eqb (k : List UInt8) (i : Int) (k' : List UInt8) (i' : Int) (r : Bool) (h : plEq k i k' i' = r) (W : World) : (binOp .eql 88 (.agg #[.string (text k), .int .i64 i]) (.agg #[.string (text k'), .int .i64 i'])).run Tryd.prog W = .ok (.bool r) W := by
  rw [run_eql_struct, pl_eqIn, h]; rfl
theorem pl_eqg (op : BinOp) (x y : Operand) (xs ys : Array Value) (W : World) : (eqGuard op 88 x y (.agg xs) (.agg ys)).run Tryd.prog W = .ok () W := run_eqGuard_agg W op _ x y xs ys (by kernel_rfl)
theorem pl_set {W : World} {q : Nat} {x0 x1 : Value} (h : W.heap[q]? = some (.cells #[x0, x1] 88 (0, 0))) (a b : Value) : ((W.setCell ⟨q, 0, none⟩ a).setCell ⟨q, 1, none⟩ b).heap[q]? = some (.cells #[a, b] 88 (0, 0)) :=
  (heap_setCell_same _ q 1 _ _ _ (heap_setCell_same W q 0 _ _ _ h)).trans rfl
set_option maxHeartbeats 1600000 in
theorem placeof_c (kx : List UInt8) (ix : Int) (gx : Bool) (vx : List UInt8) (w : World) : Calls Tryd.prog 44 #[.agg #[.string (text kx), .int .i64 ix, .bool gx, .string (text vx)]] w (Tells (.agg #[.string (text kx), .int .i64 ix]) w) := by
  have hr := heap_alloc_new w (.cells #[.string (text kx), .int .i64 ix, .bool gx, .string (text vx)] 31)
  have hb := alloc_below w (.cells #[.string (text kx), .int .i64 ix, .bool gx, .string (text vx)] 31)
  have hs := World.size_alloc w (.cells #[.string (text kx), .int .i64 ix, .bool gx, .string (text vx)] 31)
  go_enter Tryd.func44, Tryd.ntmps44
  go_upto_region 1 with (fail)
  obtain ⟨B, hB⟩ : ∃ q, w.heap.size = q := ⟨_, rfl⟩
  have HBe := Lib.hid hB
  rw [hB] at hr hs
  try rw [hB]
  clear hB
  generalize w.alloc (.cells #[.string (text kx), .int .i64 ix, .bool gx, .string (text vx)] 31) = W1 at *
  have hr2 := heap_alloc_new W1 (.cells #[.string ⟨#[]⟩, .int .i64 0] 88)
  have hb2 := alloc_below W1 (.cells #[.string ⟨#[]⟩, .int .i64 0] 88)
  rw [hs] at hr2
  try rw [hs]
  have HB2 := Lib.hid (hb.trans (hb2.mono hb.size))
  obtain ⟨p0, p1, p2, p3⟩ := wr_cells (heap_below hr hb2)
  clear hr hs hb hb2
  generalize W1.alloc (.cells #[.string ⟨#[]⟩, .int .i64 0] 88) = W2 at *
  obtain ⟨c0, c1⟩ := pair_cells hr2
  have z0 := fun i => frozen_of_row W2 (B + 1) i _ _ hr2
  have HS := Lib.hid (pl_set hr2 (.string (text kx)) (.int .i64 ix))
  clear hr2
  go_wp2
  refine bodyPost_ret (results_cell_row rfl _ _ (B + 1) 88 _ (0, 0) _ rfl HS.out Tryd.underlying88 rfl (by kernel_rfl)) rfl ⟨rfl, HB2.out.trans (Only.below ((Only.set W2 ⟨B + 1, 0, none⟩ _).trans (Only.set _ ⟨B + 1, 1, none⟩ _)) (by show _ ≤ B + 1; rw [← HBe.out]; omega) HB2.out.size)⟩
set_option maxHeartbeats 1600000 in
theorem has1_c {w : World} {ga : Nat} {key : List UInt8} {grp : Int} (hg : w.heap[ga]? = some (.cells #[.string (text key), .int .i64 grp] 88 (0, 0))) (kx : List UInt8) (ix : Int) (gx : Bool) (vx : List UInt8) :
    Calls Tryd.prog 43 #[.agg #[.string (text kx), .int .i64 ix, .bool gx, .string (text vx)], .pointer (some ⟨ga, 0, none⟩)] w (Tells (.bool (plEq kx ix key grp)) w) := by
  have hr := heap_alloc_new w (.cells #[.string (text kx), .int .i64 ix, .bool gx, .string (text vx)] 31)
  have hb := alloc_below w (.cells #[.string (text kx), .int .i64 ix, .bool gx, .string (text vx)] 31)
  have HG := Lib.hid (heap_below hg hb)
  have HEQ := Lib.hid (fun W => pl_eqb kx ix key grp (plEq kx ix key grp) rfl W)
  have HEG := Lib.hid (fun W op x y xs ys => pl_eqg op x y xs ys W)
  obtain ⟨R, hR⟩ : ∃ z, plEq kx ix key grp = z := ⟨_, rfl⟩
  rw [hR] at HEQ ⊢
  clear hR hg
  go_enter Tryd.func43, Tryd.ntmps43
  go_upto_region 1 with (fail)
  obtain ⟨B, hB⟩ : ∃ q, w.heap.size = q := ⟨_, rfl⟩
  have HBe := Lib.hid hB
  rw [hB] at hr
  try rw [hB]
  clear hB
  generalize w.alloc (.cells #[.string (text kx), .int .i64 ix, .bool gx, .string (text vx)] 31) = W1 at *
  have HR := Lib.hid hr
  have HB := Lib.hid hb
  clear hr hb
  refine wp_region_flow_tail 4 [none, none, none, none, some 0, some 1, some 2, some 3] (fun i => [undef, undef, undef, undef].getD i undef) [(fun v _ => v = .agg #[.string (text kx), .int .i64 ix, .bool gx, .string (text vx)]), (fun v _ => v = .agg #[.string (text kx), .int .i64 ix]), (fun v _ => v = .agg #[.string (text key), .int .i64 grp]), (fun v _ => v = .bool R)] (fun _ => False) (by kernel_rfl) (by kernel_rfl) (by kernel_rfl) rfl rfl rfl ?_ ?_ ?_
  · intro g hg v X Y hX hY hv
    simp only [List.mem_cons, List.not_mem_nil, or_false] at hg
    rcases hg with rfl | rfl | rfl | rfl
    all_goals first
      | exact hv
      | exact hv.kept hY
  · simp only [flowOpsF, List.take_succ_cons, List.take_zero, and_true]
    refine ⟨?_, ?_, ?_, ?_⟩
    · intro xs W hW hn
      obtain ⟨p0, p1, p2, p3⟩ := wr_cells (heap_below HR.out hW)
      simp only [flowAct, List.zipWith_cons_cons, List.zipWith_nil_left]
      go_wp2_with (fail)
      exact ⟨rfl, _, rfl, Below.refl _ _, rfl, fun h => h.elim⟩
    · intro xs W hW hn
      simp [flowNeeds, Region.binds] at hn
      simp only [flowAct, List.zipWith_cons_cons, List.zipWith_nil_left]
      simp only [hn]
      go_wp2_with (go_at_call 44; (with_reducible refine (placeof_c kx ix gx vx _).mono ?_); rintro e9 w9 ⟨rfl, hb9⟩)
      exact ⟨rfl, _, rfl, hb9, rfl, fun h => h.elim⟩
    · intro xs W hW hn
      obtain ⟨q0, q1⟩ := pair_cells (heap_below HG.out hW)
      simp only [flowAct, List.zipWith_cons_cons, List.zipWith_nil_left]
      go_wp2_with (fail)
      exact ⟨rfl, _, rfl, Below.refl _ _, rfl, fun h => h.elim⟩
    · intro xs W hW hn
      have heq := HEQ.out
      have heg := HEG.out
      simp [flowNeeds, Region.binds] at hn
      simp only [flowAct, List.zipWith_cons_cons, List.zipWith_nil_left]
      try simp only [hn]
      go_wp2_with (fail)
      exact ⟨rfl, _, rfl, Below.refl _ _, rfl, fun h => h.elim⟩
  · intro xs W hW hall hfr
    clear hfr
    simp only [flowAll, and_true, Nat.zero_add, Nat.reduceAdd] at hall
    obtain ⟨-, -, -, e3⟩ := hall
    simp only [flowAct, List.zipWith_cons_cons, List.zipWith_nil_left, List.drop_succ_cons, List.drop_zero]
    simp only [e3]
    have HBW := Lib.hid (HB.out.trans (hW.mono HB.out.size))
    go_wp2
    go_ret
    exact ⟨rfl, HBW.out⟩
def hasN (ws : List Wr) (key : List UInt8) (grp : Int) : Nat → Bool
  | 0 => false
  | k + 1 => hasN ws key grp k || plEq (ws.getD k Wr.zero).k (ws.getD k Wr.zero).i key grp
theorem hasN_up {ws : List Wr} {key : List UInt8} {grp : Int} {k : Nat} (h : hasN ws key grp k = true) : ∀ j, k ≤ j → hasN ws key grp j = true
  | 0, hj => by
    obtain rfl : k = 0 := by omega
    exact h
  | j + 1, hj => by
    by_cases e : k = j + 1
    · subst e; exact h
    · show (hasN ws key grp j || _) = true
      rw [hasN_up h j (by omega)]; rfl
set_option maxHeartbeats 3200000 in
theorem idxf_c {w : World} {ga m cap2 : Nat} {x2 : Option Addr} {ws : List Wr} {key : List UInt8} {grp : Int} (hl : Wrs w x2 m cap2 ws) (hg : w.heap[ga]? = some (.cells #[.string (text key), .int .i64 grp] 88 (0, 0))) :
    Calls Tryd.prog 70 #[.slice x2 m cap2, .func (.func 43) #[] #[.pointer (some ⟨ga, 0, none⟩)]] w (fun e w' => ∃ r : Int, e = .returned (.int .i64 r) ∧ decide (r ≥ 0) = hasN ws key grp m ∧ Below w.heap.size w w') := by
  have hle2 := hl.le
  have hmax2 := hl.max
  have HL := Lib.hid hl
  have HH := Lib.hid (fun W (h : Below w.heap.size w W) kx ix gx vx => has1_c (heap_below hg h) kx ix gx vx)
  clear hl hg
  go_enter Tryd.func70, Tryd.ntmps70
  go_upto_region 2 with (fail)
  go_loopw [8] (fun i wr => ∃ k : Nat, k ≤ m ∧ i = .int .i64 (k : Int) ∧ hasN ws key grp k = false ∧ Below w.heap.size w wr) (fun i _ => m - (intOf i).toNat)
  case atStart => exact ⟨0, by omega, rfl, rfl, Below.refl _ _⟩
  case round =>
    obtain ⟨k, hk, rfl, hn, hb⟩ := hrel
    have HN := Lib.hid hn
    have HB := Lib.hid hb
    clear hn hb
    by_cases hlt : k < m
    · have hki : (k : Int) < (m : Int) := by omega
      have hkc : (k : Int) < (cap2 : Int) := by omega
      obtain ⟨bk, off, rfl, hat⟩ := HL.out.place hlt
      have hst : hasN ws key grp (k + 1) = plEq (ws.getD k Wr.zero).k (ws.getD k Wr.zero).i key grp := by show (hasN ws key grp k || _) = _; rw [HN.out]; rfl
      obtain ⟨y, hy⟩ : ∃ y, ws.getD k Wr.zero = y := ⟨_, rfl⟩
      rw [hy] at hat hst
      obtain ⟨kx, ix, gx, vx⟩ := y
      simp only at hat hst
      obtain ⟨p0, p1, p2, p3⟩ := hat wr HB.out
      have HC := Lib.hid (HH.out wr HB.out kx ix gx vx)
      obtain ⟨R, hR⟩ : ∃ z, plEq kx ix key grp = z := ⟨_, rfl⟩
      rw [hR] at hst HC
      have HST := Lib.hid hst
      clear hat hst hy hR
      cases R with
      | true =>
        go_wp2_with (go_at_call 43; (with_reducible refine HC.out.mono ?_); rintro e9 w9 ⟨rfl, hb9⟩; have HB9 := Lib.hid (HB.out.trans (hb9.mono HB.out.size)); clear hb9)
        go_ret
        exact ⟨(k : Int), rfl, by rw [hasN_up HST.out m (by omega)]; simp, HB9.out⟩
      | false =>
        go_wp2_with (go_at_call 43; (with_reducible refine HC.out.mono ?_); rintro e9 w9 ⟨rfl, hb9⟩; have HB9 := Lib.hid (HB.out.trans (hb9.mono HB.out.size)); clear hb9)
        go_roundw
        case rel => exact ⟨k + 1, by omega, by go_num, HST.out, HB9.out⟩
        case measure => simp [intOf]; omega
    · obtain rfl : k = m := by omega
      go_wp2
      go_ret
      exact ⟨-1, rfl, by rw [HN.out]; rfl, HB.out⟩
set_option maxHeartbeats 1600000 in
theorem contf_c {w : World} {ga m cap2 : Nat} {x2 : Option Addr} {ws : List Wr} {key : List UInt8} {grp : Int} (hl : Wrs w x2 m cap2 ws) (hg : w.heap[ga]? = some (.cells #[.string (text key), .int .i64 grp] 88 (0, 0))) :
    Calls Tryd.prog 42 #[.slice x2 m cap2, .func (.func 43) #[] #[.pointer (some ⟨ga, 0, none⟩)]] w (Tells (.bool (hasN ws key grp m)) w) := by
  have HI := Lib.hid (idxf_c hl hg)
  clear hl hg
  go_enter Tryd.func42, Tryd.ntmps42
  go_wp2_with (go_at_call 70; (with_reducible refine HI.out.mono ?_); rintro e9 w9 ⟨r, rfl, hr, hb9⟩; have HR := Lib.hid hr; have HB := Lib.hid hb9; clear hr hb9)
  go_ret
  exact ⟨by rw [← HR.out]; rfl, HB.out⟩
set_option maxHeartbeats 1600000 in
theorem has_c {w : World} {m cap2 : Nat} {x2 : Option Addr} {ws : List Wr} (hl : Wrs w x2 m cap2 ws) (site seq n s a b : Int) (key : List UInt8) (grp : Int) : Calls Tryd.prog 16 #[.agg #[.int .i64 site, .int .i64 seq, .int .i64 n, .int .i64 s, .int .i64 a, .int .i64 b, .slice x2 m cap2], .string (text key), .int .i64 grp] w (Tells (.bool (hasN ws key grp m)) w) := by
  have hr := heap_alloc_new w (.cells #[.int .i64 site, .int .i64 seq, .int .i64 n, .int .i64 s, .int .i64 a, .int .i64 b, .slice x2 m cap2] 29)
  have hb := alloc_below w (.cells #[.int .i64 site, .int .i64 seq, .int .i64 n, .int .i64 s, .int .i64 a, .int .i64 b, .slice x2 m cap2] 29)
  have hs := World.size_alloc w (.cells #[.int .i64 site, .int .i64 seq, .int .i64 n, .int .i64 s, .int .i64 a, .int .i64 b, .slice x2 m cap2] 29)
  have HL := Lib.hid hl
  clear hl
  go_enter Tryd.func16, Tryd.ntmps16
  go_upto_region 1 with (fail)
  obtain ⟨B, hB⟩ : ∃ q, w.heap.size = q := ⟨_, rfl⟩
  have HBe := Lib.hid hB
  rw [hB] at hr hs
  try rw [hB]
  clear hB
  generalize w.alloc (.cells #[.int .i64 site, .int .i64 seq, .int .i64 n, .int .i64 s, .int .i64 a, .int .i64 b, .slice x2 m cap2] 29) = W1 at *
  have hr2 := heap_alloc_new W1 (.cells #[.string (text key), .int .i64 grp] 88)
  have hb2 := alloc_below W1 (.cells #[.string (text key), .int .i64 grp] 88)
  rw [hs] at hr2
  have hrx := heap_below hr hb2
  have HB2 := Lib.hid (hb.trans (hb2.mono hb.size))
  go_upto_region 2 with (fail)
  try rw [hs]
  clear hr hs hb hb2
  generalize W1.alloc (.cells #[.string (text key), .int .i64 grp] 88) = W2 at *
  have HC := Lib.hid (contf_c (HL.out.below HB2.out) hr2)
  obtain ⟨c0, c1, c2, c3, c4, c5, c6⟩ := ch_cells hrx
  clear hr2 hrx
  go_wp2_with (go_at_call 42; (with_reducible refine HC.out.mono ?_); rintro e9 w9 ⟨rfl, hb9⟩; have HB := Lib.hid (HB2.out.trans (hb9.mono HB2.out.size)); clear hb9)
  go_ret
  exact ⟨rfl, HB.out⟩
end Go.Proofs.YtfkmfccdhmnllaaDoor
end

section
namespace Go.Proofs.YtfkmfccdhmnllaaDoor
open Go.RowKit Go Go.Sort
set_option linter.unusedVariables false
set_option maxRecDepth 20000

theorem putText_nil (l t : List UInt8) : putTextS l t = l ++ putTextS [] t := by have := putText_app l [] t; simpa using this
theorem wput_one (k : List UInt8) (i : Int) (g : Bool) (v : List UInt8) : wputS [] ⟨k, i, g, v⟩ = putTextS [] k ++ (numB i ++ (if g = true then numB 1 else numB 0 ++ putTextS [] v)) := by
  unfold wputS
  cases g with
  | true => simp
  | false =>
    simp only [Bool.false_eq_true, if_false]
    rw [putText_nil (putTextS [] k ++ numB i ++ numB 0) v]
    simp
theorem wput_nil (l : List UInt8) (c : Wr) : wputS l c = l ++ wputS [] c := by
  obtain ⟨k, i, g, v⟩ := c
  rw [wput_one]
  unfold wputS
  cases g with
  | true =>
    simp only [if_true]
    rw [putText_nil l k]
    simp
  | false =>
    simp only [Bool.false_eq_true, if_false]
    rw [putText_nil (putTextS l k ++ numB i ++ numB 0) v, putText_nil l k]
    simp
theorem wputN_nil (l : List UInt8) (ws : List Wr) : ∀ k, wputN l ws k = l ++ wputN [] ws k
  | 0 => by simp [wputN]
  | k + 1 => by
    show wputS (wputN l ws k) _ = l ++ wputS (wputN [] ws k) _
    rw [wput_nil, wputN_nil l ws k, wput_nil (wputN [] ws k), List.append_assoc]
end Go.Proofs.YtfkmfccdhmnllaaDoor
end

section
namespace Go.Proofs.YtfkmfccdhmnllaaDoor
open Go.RowKit Go Go.Sort
set_option linter.unusedVariables false
set_option maxRecDepth 20000

theorem bys_nil (W : World) : Bys W none 0 0 [] := own_bys (World.ownsRow_nil _ _ _ _ : OwnB W 0 5 (.slice none 0 0) [])
set_option maxRecDepth 100000 in
set_option maxHeartbeats 12800000 in
theorem chlay_c {w : World} {x2 : Option Addr} {m cap2 : Nat} {l : List Wr} (n1 : Nat) (hl : Wrs w x2 m cap2 l) (hm8 : m ≤ 8) (hall : ∀ k, k < m → mayS n1 (l.getD k Wr.zero) = true) (hn4 : n1 ≤ 4) (hT : TabW w) (site seq n s a b : Int) (hst : 1 ≤ site ∧ site ≤ 2) (hd2 : 1 ≤ seq) (hd3 : seq ≤ 1099511627776) :
    Calls Tryd.prog 50 #[.agg #[.int .i64 site, .int .i64 seq, .int .i64 n, .int .i64 s, .int .i64 a, .int .i64 b, .slice x2 m cap2]] w (BytesPost (wputN (cheadB [] site seq n s a b m) l m) w) := by
  have hle2 := hl.le
  have hmax2 := hl.max
  have HALL := Lib.hid hall
  have HHE := Lib.hid (show cheadB [] site seq n s a b m = vputS (sputS ([] ++ numB site ++ numB seq) n s) a b ++ numB (m : Int) from rfl)
  have HHL := Lib.hid (chead_le [] site seq n s a b m)
  have HL := Lib.hid hl
  have HT := Lib.hid hT
  obtain ⟨HE, hHE⟩ : ∃ z, cheadB [] site seq n s a b m = z := ⟨_, rfl⟩
  rw [hHE] at HHE HHL ⊢
  have hr := heap_alloc_new w (.cells #[.int .i64 site, .int .i64 seq, .int .i64 n, .int .i64 s, .int .i64 a, .int .i64 b, .slice x2 m cap2] 29)
  have hb := alloc_below w (.cells #[.int .i64 site, .int .i64 seq, .int .i64 n, .int .i64 s, .int .i64 a, .int .i64 b, .slice x2 m cap2] 29)
  clear hHE hl hT hall
  go_enter Tryd.func50, Tryd.ntmps50
  go_upto_region 1 with (fail)
  obtain ⟨B, hB⟩ : ∃ q, w.heap.size = q := ⟨_, rfl⟩
  have HBe := Lib.hid hB
  rw [hB] at hr ⊢
  clear hB
  generalize w.alloc (.cells #[.int .i64 site, .int .i64 seq, .int .i64 n, .int .i64 s, .int .i64 a, .int .i64 b, .slice x2 m cap2] 29) = W1 at *
  have HR1 := Lib.hid hr
  have HB1 := Lib.hid hb
  clear hr hb
  obtain ⟨l1, hl1⟩ : ∃ z, [] ++ numB site = z := ⟨_, rfl⟩
  obtain ⟨l2, hl2⟩ : ∃ z, l1 ++ numB seq = z := ⟨_, rfl⟩
  obtain ⟨l3, hl3⟩ : ∃ z, sputS l2 n s = z := ⟨_, rfl⟩
  obtain ⟨l4, hl4⟩ : ∃ z, vputS l3 a b = z := ⟨_, rfl⟩
  have hhe := HHE.out
  rw [hl1, hl2, hl3, hl4] at hhe
  have g1 : l1.length ≤ 8 := by have := numB_length site; rw [← hl1, List.length_append]; simp; omega
  have g2 : l2.length ≤ 16 := by have := numB_length seq; rw [← hl2, List.length_append]; omega
  have g3 : l3.length ≤ 24 := by have := sput_le l2 n s; rw [← hl3]; omega
  have g4 : l4.length ≤ 40 := by have := vput_le l3 a b; rw [← hl4]; omega
  have hP1 := fun W (hT : TabW W) => put_c (bys_nil W) (by omega) site (by omega) (by omega) hT
  have HP2 := Lib.hid (fun (W : World) (a2 : Option Addr) (k2 : Nat) (hh : Bys W a2 l1.length k2 l1) (hT : TabW W) => show Calls _ _ _ _ (BytesPost l2 W) by rw [← hl2]; exact put_c hh (by omega) seq (by omega) (by omega) hT)
  have HP3 := Lib.hid (fun (W : World) (a2 : Option Addr) (k2 : Nat) (hh : Bys W a2 l2.length k2 l2) (hT : TabW W) => show Calls _ _ _ _ (BytesPost l3 W) by rw [← hl3]; exact sput_c hh (by omega) hT n s)
  have HP4 := Lib.hid (fun (W : World) (a2 : Option Addr) (k2 : Nat) (hh : Bys W a2 l3.length k2 l3) (hT : TabW W) => show Calls _ _ _ _ (BytesPost l4 W) by rw [← hl4]; exact vput_c hh (by omega) hT a b)
  have HP5 := Lib.hid (fun (W : World) (a2 : Option Addr) (k2 : Nat) (hh : Bys W a2 l4.length k2 l4) (hT : TabW W) => show Calls _ _ _ _ (BytesPost HE W) by rw [hhe]; exact put_c hh (by omega) (m : Int) (by omega) (by omega) hT)
  simp only [hl1] at hP1
  have HP1 := Lib.hid hP1
  have HCW := Lib.hid (fun W (h : Below W1.heap.size W1 W) => ch_cells (heap_below HR1.out h))
  have HBs := Lib.hid HB1.out.size
  have HTW := Lib.hid (fun W (h : Below W1.heap.size W1 W) => HT.out.below (HB1.out.trans (h.mono HB1.out.size)))
  clear hP1 hl1 hl2 hl3 hl4 hhe g1 g2 g3 g4
  refine wp_region_flow_tail 6 [none, none, none, none, none, none, some 0, some 1, some 2, some 3, some 4, some 5, none, none, none, none, none, none, none, none, none, none, none, none, none, none, none, none, none, none, none, none, none, none, none, none, none, none, none, none, none, none, none, none, none, none, none, none, none] (fun i => [undef, undef, undef, undef, undef, undef].getD i undef) [(fun v _ => v = .pointer (some ⟨B, 0, none⟩)), (fun v _ => v = .int .i64 site), (fun v W => OwnB W w.heap.size 5 v l1), (fun v _ => v = .pointer (some ⟨B, 1, none⟩)), (fun v _ => v = .int .i64 seq), (fun v W => OwnB W w.heap.size 5 v l2)] (fun _ => False) (by kernel_rfl) (by kernel_rfl) (by kernel_rfl) rfl rfl rfl ?_ ?_ ?_
  · intro g hg v X Y hX hY hv
    simp only [List.mem_cons, List.not_mem_nil, or_false] at hg
    rcases hg with rfl | rfl | rfl | rfl | rfl | rfl
    all_goals first
      | exact hv
      | exact hv.kept hY
  · simp only [flowOpsF, List.take_succ_cons, List.take_zero, and_true]
    refine ⟨?_, ?_, ?_, ?_, ?_, ?_⟩
    · intro xs W hW hn
      simp only [flowAct, List.zipWith_cons_cons, List.zipWith_nil_left]
      go_wp2_with (fail)
      exact ⟨rfl, _, rfl, Below.refl _ _, rfl, fun h => h.elim⟩
    · intro xs W hW hn
      obtain ⟨c0, c1, c2, c3, c4, c5, c6⟩ := HCW.out W hW
      simp [flowNeeds, Region.binds] at hn
      simp only [flowAct, List.zipWith_cons_cons, List.zipWith_nil_left]
      try simp only [hn]
      go_wp2_with (fail)
      exact ⟨rfl, _, rfl, Below.refl _ _, rfl, fun h => h.elim⟩
    · intro xs W hW hn
      simp [flowNeeds, Region.binds] at hn
      simp only [flowAct, List.zipWith_cons_cons, List.zipWith_nil_left]
      simp only [hn]
      go_wp2_with (go_at_call 87; (with_reducible refine (HP1.out _ (HTW.out W hW)).mono ?_); rintro e9 w9 ⟨v9, rfl, ho9, hb9⟩)
      exact ⟨rfl, _, rfl, hb9, ho9.mono (Nat.le_trans HBs.out hW.size), fun h => h.elim⟩
    · intro xs W hW hn
      simp only [flowAct, List.zipWith_cons_cons, List.zipWith_nil_left]
      go_wp2_with (fail)
      exact ⟨rfl, _, rfl, Below.refl _ _, rfl, fun h => h.elim⟩
    · intro xs W hW hn
      obtain ⟨c0, c1, c2, c3, c4, c5, c6⟩ := HCW.out W hW
      simp [flowNeeds, Region.binds] at hn
      simp only [flowAct, List.zipWith_cons_cons, List.zipWith_nil_left]
      try simp only [hn]
      go_wp2_with (fail)
      exact ⟨rfl, _, rfl, Below.refl _ _, rfl, fun h => h.elim⟩
    · intro xs W hW hn
      simp [flowNeeds, Region.binds] at hn
      obtain ⟨ho3, e5⟩ := hn
      obtain ⟨a2, k2, e3, hy3⟩ := ho3.bys
      simp only [flowAct, List.zipWith_cons_cons, List.zipWith_nil_left]
      simp only [e3, e5]
      go_wp2_with (go_at_call 87; (with_reducible refine (HP2.out _ _ _ hy3 (HTW.out W hW)).mono ?_); rintro e9 w9 ⟨v9, rfl, ho9, hb9⟩)
      exact ⟨rfl, _, rfl, hb9, ho9.mono (Nat.le_trans HBs.out hW.size), fun h => h.elim⟩
  · intro xs W hW hall hfr
    clear hfr
    simp only [flowAll, and_true, Nat.zero_add, Nat.reduceAdd] at hall
    obtain ⟨-, -, -, -, -, e6⟩ := hall
    simp only [flowAct, List.zipWith_cons_cons, List.zipWith_nil_left, List.drop_succ_cons, List.drop_zero]
    obtain ⟨a2, k2, e3, -⟩ := e6.bys
    have O3 := Lib.hid e6
    rw [e3] at O3
    simp only [e3]
    clear e6 e3 HP1 HP2
    have HB3 := Lib.hid (HB1.out.trans (hW.mono HB1.out.size))
    have HR3 := Lib.hid (heap_below HR1.out hW)
    clear hW HB1 HR1 HCW HBs HTW
    obtain ⟨W3, hW3⟩ : ∃ X, W = X := ⟨_, rfl⟩
    rw [hW3] at HB3 HR3 O3 ⊢
    clear hW3
    have HCW := Lib.hid (fun W (h : Below W3.heap.size W3 W) => ch_cells (heap_below HR3.out h))
    have HBs := Lib.hid HB3.out.size
    have HTW := Lib.hid (fun W (h : Below W3.heap.size W3 W) => HT.out.below (HB3.out.trans (h.mono HB3.out.size)))
    have HYB := Lib.hid (fun W (h : Below W3.heap.size W3 W) => show Bys W a2 l2.length k2 l2 from (own_bys O3.out).below h)
    go_upto_region 2 with (fail)
    refine wp_region_flow_tail 7 [none, none, none, none, none, none, none, none, none, none, none, none, some 0, some 1, some 2, some 3, some 4, some 5, some 6, none, none, none, none, none, none, none, none, none, none, none, none, none, none, none, none, none, none, none, none, none, none, none, none, none, none, none, none, none, none] (fun i => [undef, undef, undef, undef, undef, undef, undef].getD i undef) [(fun v _ => v = .slice a2 l2.length k2), (fun v _ => v = .pointer (some ⟨B, 2, none⟩)), (fun v _ => v = .agg #[.int .i64 n, .int .i64 s]), (fun v W => OwnB W w.heap.size 5 v l3), (fun v _ => v = .pointer (some ⟨B, 4, none⟩)), (fun v _ => v = .agg #[.int .i64 a, .int .i64 b]), (fun v W => OwnB W w.heap.size 5 v l4)] (fun _ => False) (by kernel_rfl) (by kernel_rfl) (by kernel_rfl) rfl rfl rfl ?_ ?_ ?_
    · intro g hg v X Y hX hY hv
      simp only [List.mem_cons, List.not_mem_nil, or_false] at hg
      rcases hg with rfl | rfl | rfl | rfl | rfl | rfl | rfl
      all_goals first
        | exact hv
        | exact hv.kept hY
    · simp only [flowOpsF, List.take_succ_cons, List.take_zero, and_true]
      refine ⟨?_, ?_, ?_, ?_, ?_, ?_, ?_⟩
      · intro xs W hW hn
        simp only [flowAct, List.zipWith_cons_cons, List.zipWith_nil_left]
        go_wp2_with (fail)
        exact ⟨rfl, _, rfl, Below.refl _ _, rfl, fun h => h.elim⟩
      · intro xs W hW hn
        simp only [flowAct, List.zipWith_cons_cons, List.zipWith_nil_left]
        go_wp2_with (fail)
        exact ⟨rfl, _, rfl, Below.refl _ _, rfl, fun h => h.elim⟩
      · intro xs W hW hn
        obtain ⟨c0, c1, c2, c3, c4, c5, c6⟩ := HCW.out W hW
        simp [flowNeeds, Region.binds] at hn
        simp only [flowAct, List.zipWith_cons_cons, List.zipWith_nil_left]
        try simp only [hn]
        go_wp2_with (fail)
        exact ⟨rfl, _, rfl, Below.refl _ _, rfl, fun h => h.elim⟩
      · intro xs W hW hn
        simp [flowNeeds, Region.binds] at hn
        simp only [flowAct, List.zipWith_cons_cons, List.zipWith_nil_left]
        simp only [hn]
        go_wp2_with (go_at_call 89; (with_reducible refine (HP3.out _ _ _ (HYB.out W hW) (HTW.out W hW)).mono ?_); rintro e9 w9 ⟨v9, rfl, ho9, hb9⟩)
        exact ⟨rfl, _, rfl, hb9, ho9.mono (Nat.le_trans HBs.out hW.size), fun h => h.elim⟩
      · intro xs W hW hn
        simp only [flowAct, List.zipWith_cons_cons, List.zipWith_nil_left]
        go_wp2_with (fail)
        exact ⟨rfl, _, rfl, Below.refl _ _, rfl, fun h => h.elim⟩
      · intro xs W hW hn
        obtain ⟨c0, c1, c2, c3, c4, c5, c6⟩ := HCW.out W hW
        simp [flowNeeds, Region.binds] at hn
        simp only [flowAct, List.zipWith_cons_cons, List.zipWith_nil_left]
        try simp only [hn]
        go_wp2_with (fail)
        exact ⟨rfl, _, rfl, Below.refl _ _, rfl, fun h => h.elim⟩
      · intro xs W hW hn
        simp [flowNeeds, Region.binds] at hn
        obtain ⟨ho3, e5⟩ := hn
        obtain ⟨a2, k2, e3, hy3⟩ := ho3.bys
        simp only [flowAct, List.zipWith_cons_cons, List.zipWith_nil_left]
        simp only [e3, e5]
        go_wp2_with (go_at_call 88; (with_reducible refine (HP4.out _ _ _ hy3 (HTW.out W hW)).mono ?_); rintro e9 w9 ⟨v9, rfl, ho9, hb9⟩)
        exact ⟨rfl, _, rfl, hb9, ho9.mono (Nat.le_trans HBs.out hW.size), fun h => h.elim⟩
    · intro xs W hW hall hfr
      clear hfr
      simp only [flowAll, and_true, Nat.zero_add, Nat.reduceAdd] at hall
      obtain ⟨-, -, -, -, -, -, e6⟩ := hall
      simp only [flowAct, List.zipWith_cons_cons, List.zipWith_nil_left, List.drop_succ_cons, List.drop_zero]
      obtain ⟨a4, k4, e3, -⟩ := e6.bys
      have O4 := Lib.hid e6
      rw [e3] at O4
      simp only [e3]
      clear e6 e3 HP3 HP4 HYB O3
      have HB4 := Lib.hid (HB3.out.trans (hW.mono HB3.out.size))
      have HR4 := Lib.hid (heap_below HR3.out hW)
      clear hW HB3 HR3 HCW HBs HTW
      obtain ⟨W4, hW4⟩ : ∃ X, W = X := ⟨_, rfl⟩
      rw [hW4] at HB4 HR4 O4 ⊢
      clear hW4
      obtain ⟨c0, c1, c2, c3, c4, c5, c6⟩ := ch_cells HR4.out
      have HT4 := Lib.hid (HT.out.below HB4.out)
      go_upto_region 4 with (go_at_call 87; (with_reducible refine (HP5.out _ _ _ (own_bys O4.out) HT4.out).mono ?_); rintro e9 w5 ⟨v5, rfl, ho5, hb5⟩)
      have O5 := Lib.hid (ho5.mono HB4.out.size)
      have HB5 := Lib.hid (HB4.out.trans (hb5.mono HB4.out.size))
      obtain ⟨c0, c1, c2, c3, c4, c5, c6⟩ := ch_cells (heap_below HR4.out hb5)
      clear ho5 hb5 HB4 HR4 O4 HP5 HT4
      go_wp2
      clear c0 c1 c2 c3 c4 c5 c6
      go_loopw [3, 27] (fun v9 i9 wr => ∃ k9 : Nat, k9 ≤ m ∧ i9 = .int .i64 (k9 : Int) ∧ OwnB wr w.heap.size 5 v9 (wputN HE l k9) ∧ (wputN HE l k9).length ≤ 48 + 128 * k9 ∧ Below w.heap.size w wr) (fun _ i9 _ => m - (intOf i9).toNat)
      case atStart => exact ⟨0, by omega, rfl, O5.out, by have := HHL.out; show HE.length ≤ _; simpa using this, HB5.out⟩
      case round =>
        clear O5 HB5
        obtain ⟨j, hj, rfl, ho, hlen, hB⟩ := hrel
        by_cases hlt : j < m
        · have hji : (j : Int) < (m : Int) := by omega
          have hjc : (j : Int) < (cap2 : Int) := by omega
          obtain ⟨bk, off, rfl, hat⟩ := HL.out.place hlt
          have hmay := HALL.out j hlt
          have hst9 : wputN HE l (j + 1) = wputS (wputN HE l j) (l.getD j Wr.zero) := rfl
          have hle8 := wput_le (wputN HE l j) hmay
          obtain ⟨y, hy⟩ : ∃ y, l.getD j Wr.zero = y := ⟨_, rfl⟩
          rw [hy] at hat hmay hst9 hle8
          obtain ⟨kx, ix, gx, vx⟩ := y
          simp only at hat
          obtain ⟨f1, f2, f3, f4, f5, f6⟩ := may_few hmay
          simp only at f1 f2 f3 f4 f5 f6
          obtain ⟨acc, hac⟩ : ∃ z, wputN HE l j = z := ⟨_, rfl⟩
          rw [hac] at hst9 hle8 ho hlen
          rw [← hst9] at hle8
          obtain ⟨ax, kk, rfl, -⟩ := ho.bys
          obtain ⟨p0, p1, p2, p3⟩ := hat wr hB
          obtain ⟨u1, hu1⟩ : ∃ z, putTextS acc kx = z := ⟨_, rfl⟩
          obtain ⟨u2, hu2⟩ : ∃ z, u1 ++ numB ix = z := ⟨_, rfl⟩
          have g1 : u1.length ≤ 1200 := by have := putText_le acc kx; rw [← hu1]; omega
          have g2 : u2.length ≤ 1208 := by have := numB_length ix; rw [← hu2, List.length_append]; omega
          have hstep : wputN HE l (j + 1) = if gx = true then u2 ++ numB 1 else putTextS (u2 ++ numB 0) vx := by rw [hst9, ← hu2, ← hu1]; rfl
          have hT1 := fun (W : World) (hh : Bys W ax acc.length kk acc) (hT : TabW W) => puttext_c hh (text kx) (by omega) (by rw [text_size]; omega) hT
          simp only [text_back, hu1] at hT1
          have HT1 := Lib.hid hT1
          have HT2 := Lib.hid (fun (W : World) (a2 : Option Addr) (k2 : Nat) (hh : Bys W a2 u1.length k2 u1) (hT : TabW W) => show Calls _ _ _ _ (BytesPost u2 W) by rw [← hu2]; exact put_c hh (by omega) ix (by omega) (by omega) hT)
          have HSTEP := Lib.hid hstep
          have HLE8 := Lib.hid (show (wputN HE l (j + 1)).length ≤ 48 + 128 * (j + 1) by omega)
          have HBr := Lib.hid hB
          have HOr := Lib.hid ho
          clear hat hmay hst9 hle8 hy ho hB hstep hac hT1 hu1 hu2 f6
          go_upto_region 7 with (fail)
          have hal := alloc_below wr (.cells #[.string (text kx), .int .i64 ix, .bool gx, .string (text vx)] 31)
          have HQ1 := Lib.hid (heap_alloc_new wr (.cells #[.string (text kx), .int .i64 ix, .bool gx, .string (text vx)] 31))
          have HB6 := Lib.hid (HBr.out.trans (hal.mono HBr.out.size))
          have HO6 := Lib.hid (HOr.out.kept hal)
          obtain ⟨gq, hgq⟩ : ∃ z, wr.heap.size = z := ⟨_, rfl⟩
          rw [hgq] at HQ1 ⊢
          clear hgq hal p0 p1 p2 p3 HBr HOr
          generalize wr.alloc (.cells #[.string (text kx), .int .i64 ix, .bool gx, .string (text vx)] 31) = V1 at *
          have HYB := Lib.hid (fun W (h : Below V1.heap.size V1 W) => show Bys W ax acc.length kk acc from (own_bys HO6.out).below h)
          have HQW := Lib.hid (fun W (h : Below V1.heap.size V1 W) => wr_cells (heap_below HQ1.out h))
          have HBs := Lib.hid HB6.out.size
          have HTW := Lib.hid (fun W (h : Below V1.heap.size V1 W) => HT.out.below (HB6.out.trans (h.mono HB6.out.size)))
          refine wp_region_flow_tail 7 [none, none, none, none, none, none, none, none, none, none, none, none, none, none, none, none, none, none, none, none, none, none, none, none, none, none, none, none, none, none, none, some 0, some 1, some 2, some 3, some 4, some 5, some 6, none, none, none, none, none, none, none, none, none, none, none] (fun i => [u31, u32, u33, u34, u35, u36, u37].getD i undef) [(fun v _ => v = .slice ax acc.length kk), (fun v _ => v = .pointer (some ⟨gq, 0, none⟩)), (fun v _ => v = .string (text kx)), (fun v W => OwnB W w.heap.size 5 v u1), (fun v _ => v = .pointer (some ⟨gq, 1, none⟩)), (fun v _ => v = .int .i64 ix), (fun v W => OwnB W w.heap.size 5 v u2)] (fun _ => False) (by kernel_rfl) (by kernel_rfl) (by kernel_rfl) rfl rfl rfl ?_ ?_ ?_
          · intro g hg v X Y hX hY hv
            simp only [List.mem_cons, List.not_mem_nil, or_false] at hg
            rcases hg with rfl | rfl | rfl | rfl | rfl | rfl | rfl
            all_goals first
              | exact hv
              | exact hv.kept hY
          · simp only [flowOpsF, List.take_succ_cons, List.take_zero, and_true]
            refine ⟨?_, ?_, ?_, ?_, ?_, ?_, ?_⟩
            · intro xs W hW hn
              simp only [flowAct, List.zipWith_cons_cons, List.zipWith_nil_left]
              go_wp2_with (fail)
              exact ⟨rfl, _, rfl, Below.refl _ _, rfl, fun h => h.elim⟩
            · intro xs W hW hn
              simp only [flowAct, List.zipWith_cons_cons, List.zipWith_nil_left]
              go_wp2_with (fail)
              exact ⟨rfl, _, rfl, Below.refl _ _, rfl, fun h => h.elim⟩
            · intro xs W hW hn
              obtain ⟨p0, p1, p2, p3⟩ := HQW.out W hW
              simp [flowNeeds, Region.binds] at hn
              simp only [flowAct, List.zipWith_cons_cons, List.zipWith_nil_left]
              try simp only [hn]
              go_wp2_with (fail)
              exact ⟨rfl, _, rfl, Below.refl _ _, rfl, fun h => h.elim⟩
            · intro xs W hW hn
              simp [flowNeeds, Region.binds] at hn
              simp only [flowAct, List.zipWith_cons_cons, List.zipWith_nil_left]
              simp only [hn]
              go_wp2_with (go_at_call 90; (with_reducible refine (HT1.out _ (HYB.out W hW) (HTW.out W hW)).mono ?_); rintro e9 w9 ⟨v9, rfl, ho9, hb9⟩)
              exact ⟨rfl, _, rfl, hb9, ho9.mono (Nat.le_trans HBs.out hW.size), fun h => h.elim⟩
            · intro xs W hW hn
              simp only [flowAct, List.zipWith_cons_cons, List.zipWith_nil_left]
              go_wp2_with (fail)
              exact ⟨rfl, _, rfl, Below.refl _ _, rfl, fun h => h.elim⟩
            · intro xs W hW hn
              obtain ⟨p0, p1, p2, p3⟩ := HQW.out W hW
              simp [flowNeeds, Region.binds] at hn
              simp only [flowAct, List.zipWith_cons_cons, List.zipWith_nil_left]
              try simp only [hn]
              go_wp2_with (fail)
              exact ⟨rfl, _, rfl, Below.refl _ _, rfl, fun h => h.elim⟩
            · intro xs W hW hn
              simp [flowNeeds, Region.binds] at hn
              obtain ⟨ho3, e5⟩ := hn
              obtain ⟨a2, k2, e3, hy3⟩ := ho3.bys
              simp only [flowAct, List.zipWith_cons_cons, List.zipWith_nil_left]
              simp only [e3, e5]
              go_wp2_with (go_at_call 87; (with_reducible refine (HT2.out _ _ _ hy3 (HTW.out W hW)).mono ?_); rintro e9 w9 ⟨v9, rfl, ho9, hb9⟩)
              exact ⟨rfl, _, rfl, hb9, ho9.mono (Nat.le_trans HBs.out hW.size), fun h => h.elim⟩
          · intro xs W hW hall hfr
            clear hfr
            simp only [flowAll, and_true, Nat.zero_add, Nat.reduceAdd] at hall
            obtain ⟨-, -, -, -, -, -, e6⟩ := hall
            simp only [flowAct, List.zipWith_cons_cons, List.zipWith_nil_left, List.drop_succ_cons, List.drop_zero]
            obtain ⟨a7, k7, e3, -⟩ := e6.bys
            have O7 := Lib.hid e6
            rw [e3] at O7
            simp only [e3]
            clear e6 e3 HT1 HT2 HYB HO6 HTW
            have HB7 := Lib.hid (HB6.out.trans (hW.mono HB6.out.size))
            have HQ7 := Lib.hid (heap_below HQ1.out hW)
            clear hW HB6 HQ1 HQW HBs
            obtain ⟨W7, hW7⟩ : ∃ X, W = X := ⟨_, rfl⟩
            rw [hW7] at HB7 HQ7 O7 ⊢
            clear hW7
            obtain ⟨p0, p1, p2, p3⟩ := wr_cells HQ7.out
            cases gx with
            | true =>
              have HP8 := Lib.hid (show Calls _ _ _ _ (BytesPost (wputN HE l (j + 1)) W7) by rw [HSTEP.out]; exact put_c (own_bys O7.out) (by omega) 1 (by omega) (by omega) (HT.out.below HB7.out))
              go_wp2_with (go_at_call 87; (with_reducible refine HP8.out.mono ?_); rintro e9 w9 ⟨v9, rfl, ho9, hb9⟩)
              go_roundw
              case rel => exact ⟨j + 1, by omega, by go_num, ho9.mono HB7.out.size, HLE8.out, HB7.out.trans (hb9.mono HB7.out.size)⟩
              case measure => simp [intOf]; omega
            | false =>
              obtain ⟨u3, hu3⟩ : ∃ z, u2 ++ numB 0 = z := ⟨_, rfl⟩
              have g3 : u3.length ≤ 1216 := by have := numB_length 0; rw [← hu3, List.length_append]; omega
              have hst2 := HSTEP.out
              rw [if_neg (by decide), hu3] at hst2
              have HP8 := Lib.hid (fun W (h : Below W7.heap.size W7 W) => show Calls _ _ _ _ (BytesPost u3 W) by rw [← hu3]; exact put_c ((own_bys O7.out).below h) (by omega) 0 (by omega) (by omega) (HT.out.below (HB7.out.trans (h.mono HB7.out.size))))
              have hT9 := fun (W : World) (a2 : Option Addr) (k2 : Nat) (hh : Bys W a2 u3.length k2 u3) (hT : TabW W) => puttext_c hh (text vx) (by omega) (by rw [text_size]; omega) hT
              simp only [text_back, ← hst2] at hT9
              have HT9 := Lib.hid hT9
              have HQW := Lib.hid (fun W (h : Below W7.heap.size W7 W) => wr_cells (heap_below HQ7.out h))
              have HBs := Lib.hid HB7.out.size
              have HTW := Lib.hid (fun W (h : Below W7.heap.size W7 W) => HT.out.below (HB7.out.trans (h.mono HB7.out.size)))
              clear hT9 hst2 hu3 HSTEP
              go_upto_region 10 with (fail)
              clear p0 p1 p2 p3
              refine wp_region_flow_tail 5 [none, none, none, none, none, none, none, none, none, none, none, none, none, none, none, none, none, none, none, none, none, none, none, none, none, none, none, none, none, none, none, none, none, none, none, none, none, none, none, none, none, none, some 0, some 1, some 2, some 3, some 4, none, none] (fun i => [u42, u43, u44, u45, u46].getD i undef) [(fun v _ => v = .slice a7 u2.length k7), (fun v W => OwnB W w.heap.size 5 v u3), (fun v _ => v = .pointer (some ⟨gq, 3, none⟩)), (fun v _ => v = .string (text vx)), (fun v W => OwnB W w.heap.size 5 v (wputN HE l (j + 1)))] (fun _ => False) (by kernel_rfl) (by kernel_rfl) (by kernel_rfl) rfl rfl rfl ?_ ?_ ?_
              · intro g hg v X Y hX hY hv
                simp only [List.mem_cons, List.not_mem_nil, or_false] at hg
                rcases hg with rfl | rfl | rfl | rfl | rfl
                all_goals first
                  | exact hv
                  | exact hv.kept hY
              · simp only [flowOpsF, List.take_succ_cons, List.take_zero, and_true]
                refine ⟨?_, ?_, ?_, ?_, ?_⟩
                · intro xs W hW hn
                  simp only [flowAct, List.zipWith_cons_cons, List.zipWith_nil_left]
                  go_wp2_with (fail)
                  exact ⟨rfl, _, rfl, Below.refl _ _, rfl, fun h => h.elim⟩
                · intro xs W hW hn
                  simp [flowNeeds, Region.binds] at hn
                  simp only [flowAct, List.zipWith_cons_cons, List.zipWith_nil_left]
                  simp only [hn]
                  go_wp2_with (go_at_call 87; (with_reducible refine (HP8.out _ hW).mono ?_); rintro e9 w9 ⟨v9, rfl, ho9, hb9⟩)
                  exact ⟨rfl, _, rfl, hb9, ho9.mono (Nat.le_trans HBs.out hW.size), fun h => h.elim⟩
                · intro xs W hW hn
                  simp only [flowAct, List.zipWith_cons_cons, List.zipWith_nil_left]
                  go_wp2_with (fail)
                  exact ⟨rfl, _, rfl, Below.refl _ _, rfl, fun h => h.elim⟩
                · intro xs W hW hn
                  obtain ⟨p0, p1, p2, p3⟩ := HQW.out W hW
                  simp [flowNeeds, Region.binds] at hn
                  simp only [flowAct, List.zipWith_cons_cons, List.zipWith_nil_left]
                  try simp only [hn]
                  go_wp2_with (fail)
                  exact ⟨rfl, _, rfl, Below.refl _ _, rfl, fun h => h.elim⟩
                · intro xs W hW hn
                  simp [flowNeeds, Region.binds] at hn
                  obtain ⟨ho3, e5⟩ := hn
                  obtain ⟨a2, k2, e3, hy3⟩ := ho3.bys
                  simp only [flowAct, List.zipWith_cons_cons, List.zipWith_nil_left]
                  simp only [e3, e5]
                  go_wp2_with (go_at_call 90; (with_reducible refine (HT9.out _ _ _ hy3 (HTW.out W hW)).mono ?_); rintro e9 w9 ⟨v9, rfl, ho9, hb9⟩)
                  exact ⟨rfl, _, rfl, hb9, ho9.mono (Nat.le_trans HBs.out hW.size), fun h => h.elim⟩
              · intro xs W hW hall hfr
                clear hfr
                simp only [flowAll, and_true, Nat.zero_add, Nat.reduceAdd] at hall
                obtain ⟨-, -, -, -, e4⟩ := hall
                simp only [flowAct, List.zipWith_cons_cons, List.zipWith_nil_left, List.drop_succ_cons, List.drop_zero]
                have HB8 := Lib.hid (HB7.out.trans (hW.mono HB7.out.size))
                have O8 := Lib.hid e4
                go_wp2
                go_roundw
                case rel => exact ⟨j + 1, by omega, by go_num, O8.out, HLE8.out, HB8.out⟩
                case measure => simp [intOf]; omega
        · obtain rfl : m = j := by omega
          obtain ⟨ax, kk, rfl, -⟩ := ho.bys
          have HO := Lib.hid ho
          have HB := Lib.hid hB
          clear ho hB
          go_wp2
          go_ret
          exact ⟨_, rfl, HO.out, HB.out⟩
set_option maxHeartbeats 3200000 in
theorem chput_c {w : World} {ad : Option Addr} {m9 cap9 : Nat} {by9 : List UInt8} (hy : Bys w ad m9 cap9 by9) (hm9 : m9 ≤ 5400) {x x2 : Option Addr} {n1 cap m cap2 : Nat} {gs : List Grp} {l : List Wr} (hg : Grs w x n1 cap gs) (hs : ∀ g ∈ gs, g.1.length ≤ 9223372036854775807) (hl : Wrs w x2 m cap2 l) (hx : WShort l) (hT : TabW w) (site seq n s a b : Int) :
    Calls Tryd.prog 23 #[.slice ad m9 cap9, .slice x n1 cap, .agg #[.int .i64 site, .int .i64 seq, .int .i64 n, .int .i64 s, .int .i64 a, .int .i64 b, .slice x2 m cap2]] w (BytesPost (chputS by9 gs site seq n s a b l) w) := by
  have hgl := hg.len
  have hll := hl.len
  have HGD := Lib.hid (fun W (h : Below w.heap.size w W) => chgood_c (hg.below h) hs (hl.below h) hx site seq n s a b)
  have HIV := Lib.hid (@ch_inv gs site seq n s a b l)
  have HP := Lib.hid (show chgoodS gs site seq n s a b l = 0 → chputS by9 gs site seq n s a b l = by9 ++ wputN (cheadB [] site seq n s a b m) l m from fun h => by
    unfold chputS
    rw [if_pos h, hll, wputN_nil, wputN_nil (cheadB [] site seq n s a b m)]
    unfold cheadB
    rw [← List.append_assoc]
    congr 1
    simp only [List.nil_append]
    rw [List.append_assoc by9, sput_app, vput_app, List.append_assoc])
  have HQ := Lib.hid (show ¬ chgoodS gs site seq n s a b l = 0 → chputS by9 gs site seq n s a b l = by9 from fun h => by unfold chputS; rw [if_neg h])
  have HLY := Lib.hid (show chgoodS gs site seq n s a b l = 0 → (wputN (cheadB [] site seq n s a b m) l m).length ≤ 1200 ∧ ∀ W, Below w.heap.size w W → Calls Tryd.prog 50 #[.agg #[.int .i64 site, .int .i64 seq, .int .i64 n, .int .i64 s, .int .i64 a, .int .i64 b, .slice x2 m cap2]] W (BytesPost (wputN (cheadB [] site seq n s a b m) l m) W) from fun h => by
    obtain ⟨hp0, hhd, hall⟩ := ch_inv h
    rw [hll] at hhd hall
    obtain ⟨hd1, hd2, hd3, -, -, -, -, hd4, hd5⟩ := head_ok hhd
    have hn4 := pgood_len hp0
    rw [hgl] at hn4 hall
    have hma : ∀ k, k < m → mayS n1 (l.getD k Wr.zero) = true := fun k hk => w_at (hall k hk)
    refine ⟨?_, fun W hW => chlay_c n1 (hl.below hW) hd5 hma (by omega) (hT.below hW) site seq n s a b (by omega) hd2 hd3⟩
    have h1 := chead_le [] site seq n s a b m
    have : ∀ k, k ≤ m → (wputN (cheadB [] site seq n s a b m) l k).length ≤ 48 + 128 * k := by
      intro k
      induction k with
      | zero => intro _; show (cheadB [] site seq n s a b m).length ≤ _; simpa using h1
      | succ k ih =>
        intro hk
        have h2 := ih (by omega)
        have h3 := wput_le (wputN (cheadB [] site seq n s a b m) l k) (hma k (by omega))
        show (wputS _ _).length ≤ _
        omega
    have := this m (Nat.le_refl _)
    omega)
  obtain ⟨RV, hRV⟩ : ∃ z, chputS by9 gs site seq n s a b l = z := ⟨_, rfl⟩
  rw [hRV] at HP HQ ⊢
  obtain ⟨R, hR⟩ : ∃ z, chgoodS gs site seq n s a b l = z := ⟨_, rfl⟩
  rw [hR] at HP HQ HLY
  simp only [hR] at HGD
  obtain ⟨o, ho⟩ : ∃ o, wputN (cheadB [] site seq n s a b m) l m = o := ⟨_, rfl⟩
  rw [ho] at HP
  simp only [ho] at HLY
  have HL := Lib.hid (fun W (h : Below w.heap.size w W) => hy.below h)
  have hr := heap_alloc_new w (.cells #[.int .i64 site, .int .i64 seq, .int .i64 n, .int .i64 s, .int .i64 a, .int .i64 b, .slice x2 m cap2] 29)
  have hb := alloc_below w (.cells #[.int .i64 site, .int .i64 seq, .int .i64 n, .int .i64 s, .int .i64 a, .int .i64 b, .slice x2 m cap2] 29)
  clear hRV hR ho hg hs hl hx hy hT HIV
  have HC := Lib.hid (fun W (h : Below (w.alloc (.cells #[.int .i64 site, .int .i64 seq, .int .i64 n, .int .i64 s, .int .i64 a, .int .i64 b, .slice x2 m cap2] 29)).heap.size (w.alloc (.cells #[.int .i64 site, .int .i64 seq, .int .i64 n, .int .i64 s, .int .i64 a, .int .i64 b, .slice x2 m cap2] 29)) W) => ch_cells (heap_below hr h))
  have HB := Lib.hid hb
  clear hr hb
  by_cases h0 : R = 0
  · subst h0
    have HRR := Lib.hid (HP.out (by first | rfl | trivial))
    obtain ⟨hol, hla⟩ := HLY.out (by first | rfl | trivial)
    have HLa := Lib.hid hla
    clear HP HQ HLY hla
    go_enter Tryd.func23, Tryd.ntmps23
    go_upto_region 1 with (fail)
    generalize w.alloc (.cells #[.int .i64 site, .int .i64 seq, .int .i64 n, .int .i64 s, .int .i64 a, .int .i64 b, .slice x2 m cap2] 29) = W1 at *
    obtain ⟨c0, c1, c2, c3, c4, c5, c6⟩ := HC.out _ (Below.refl _ _)
    go_upto_region 3 with (go_at_call 13; (with_reducible refine (HGD.out _ HB.out).mono ?_); rintro e9 w1 ⟨rfl, hb1⟩)
    obtain ⟨c0, c1, c2, c3, c4, c5, c6⟩ := HC.out _ hb1
    have HB1 := Lib.hid (HB.out.trans (hb1.mono HB.out.size))
    clear hb1 HB
    go_upto_region 4 with (go_at_call 50; (with_reducible refine (HLa.out _ HB1.out).mono ?_); rintro e9 w2 ⟨v2, rfl, ho2, hb2⟩)
    obtain ⟨a2, k2, rfl, hy2⟩ := ho2.bys
    have hal := alloc_below w2 (.cells #[.slice ad m9 cap9, .slice a2 o.length k2] 50)
    have HBw := HB1.out.trans (hb2.mono HB1.out.size)
    have hc := concat_c (w := w2.alloc (.cells #[.slice ad m9 cap9, .slice a2 o.length k2] 50)) (q := w2.heap.size) (by rw [cell_of_row _ w2.heap.size 0 _ _ (0, 0) (heap_alloc_new w2 _)]; rfl) (by rw [cell_of_row _ w2.heap.size 1 _ _ (0, 0) (heap_alloc_new w2 _)]; rfl) ((HL.out _ HBw).below hal) (hy2.below hal) (by omega) (by omega)
    have HCC := Lib.hid hc
    have HB2 := Lib.hid (HBw.alloc (Nat.le_trans HB1.out.size hb2.size) (.cells #[.slice ad m9 cap9, .slice a2 o.length k2] 50))
    clear hc hal hb2 ho2 hy2 HBw c0 c1 c2 c3 c4 c5 c6
    go_wp2_with (go_at_call 51; (with_reducible refine HCC.out.mono ?_); rintro e9 w9 ⟨v9, rfl, ho9, hb9⟩)
    go_ret
    exact ⟨_, rfl, by rw [HRR.out]; exact ho9.mono HB2.out.size, HB2.out.trans (hb9.mono HB2.out.size)⟩
  · have h0n : (R == 0) = false := by simpa using h0
    have HRR := Lib.hid (HQ.out h0)
    clear HP HQ HLY
    go_enter Tryd.func23, Tryd.ntmps23
    go_upto_region 1 with (fail)
    generalize w.alloc (.cells #[.int .i64 site, .int .i64 seq, .int .i64 n, .int .i64 s, .int .i64 a, .int .i64 b, .slice x2 m cap2] 29) = W1 at *
    obtain ⟨c0, c1, c2, c3, c4, c5, c6⟩ := HC.out _ (Below.refl _ _)
    go_upto_region 4 with (go_at_call 13; (with_reducible refine (HGD.out _ HB.out).mono ?_); rintro e9 w1 ⟨rfl, hb1⟩)
    have hal := alloc_below w1 (.cells #[.slice ad m9 cap9, .slice none 0 0] 50)
    have HBw := HB.out.trans (hb1.mono HB.out.size)
    have hc := concat_c (w := w1.alloc (.cells #[.slice ad m9 cap9, .slice none 0 0] 50)) (q := w1.heap.size) (l' := []) (m' := 0) (cap' := 0) (ad' := none) (by rw [cell_of_row _ w1.heap.size 0 _ _ (0, 0) (heap_alloc_new w1 _)]; rfl) (by rw [cell_of_row _ w1.heap.size 1 _ _ (0, 0) (heap_alloc_new w1 _)]; rfl) ((HL.out _ HBw).below hal) (bys_nil _) (by omega) (by omega)
    rw [List.append_nil] at hc
    have HCC := Lib.hid hc
    have HB2 := Lib.hid (HBw.alloc (Nat.le_trans HB.out.size hb1.size) (.cells #[.slice ad m9 cap9, .slice none 0 0] 50))
    clear hc hal hb1 HBw c0 c1 c2 c3 c4 c5 c6
    go_wp2_with (go_at_call 51; (with_reducible refine HCC.out.mono ?_); rintro e9 w9 ⟨v9, rfl, ho9, hb9⟩)
    go_ret
    exact ⟨_, rfl, by rw [HRR.out]; exact ho9.mono HB2.out.size, HB2.out.trans (hb9.mono HB2.out.size)⟩
end Go.Proofs.YtfkmfccdhmnllaaDoor
end

section
namespace Go.Proofs.YtfkmfccdhmnllaaDoor
open Go.RowKit Go Go.Sort
set_option linter.unusedVariables false
set_option maxRecDepth 20000

theorem mem_getDw {l : List Wr} {k : Nat} (h : k < l.length) : l.getD k Wr.zero ∈ l := by
  rw [List.getD_eq_getElem?_getD, List.getElem?_eq_getElem h]; exact List.getElem_mem h
def lightW (g : Nat) (ws : List Wr) : Nat → Nat
  | 0 => satN 0 g
  | k + 1 => satN (satN (satN (lightW g ws k) 10) (ws.getD k Wr.zero).k.length) (ws.getD k Wr.zero).v.length
theorem lightW_le (g : Nat) (ws : List Wr) : ∀ k, lightW g ws k ≤ 5001
  | 0 => satN_le _ _
  | k + 1 => satN_le _ _
theorem lightW_full {g k : Nat} {ws : List Wr} (h : 5000 < lightW g ws k) : ∀ j, k ≤ j → lightW g ws j = 5001
  | 0, hj => by
    obtain rfl : k = 0 := by omega
    have := lightW_le g ws 0
    omega
  | j + 1, hj => by
    by_cases e : k = j + 1
    · subst e
      have := lightW_le g ws (j + 1)
      omega
    · have h0 := lightW_full h j (by omega)
      have h1 := satN_full (show 5000 < lightW g ws j by omega) 10
      have h2 := satN_full (show 5000 < satN (lightW g ws j) 10 by omega) (ws.getD j Wr.zero).k.length
      exact satN_full (by omega) _
set_option maxRecDepth 100000 in
set_option maxHeartbeats 6400000 in
theorem lightw_c {w : World} {x x2 : Option Addr} {n1 cap m cap2 : Nat} {l : List Wr} (hn1 : n1 ≤ 9223372036854775807) (hl : Wrs w x2 m cap2 l) (hx : WShort l) : Calls Tryd.prog 9 #[.slice x n1 cap, .slice x2 m cap2] w (Tells (.bool (decide (lightW n1 l m ≤ 5000))) w) := by
  have hle2 := hl.le
  have hmax2 := hl.max
  have hll := hl.len
  have HL := Lib.hid hl
  have HX := Lib.hid hx
  have HAF := Lib.hid (fun W => show Calls Tryd.prog 27 #[.int .i64 0, .int .i64 (n1 : Int), .int .i64 5000] W _ from radd_c 0 n1 (by omega) hn1 W)
  have HF := Lib.hid (@lightW_full n1 · l)
  clear hl hx
  obtain ⟨R, hR⟩ : ∃ z, lightW n1 l m = z := ⟨_, rfl⟩
  rw [hR]
  have HR := Lib.hid hR
  clear hR
  go_enter Tryd.func9, Tryd.ntmps9
  go_upto_region 3 with (go_at_call 27; (with_reducible refine (HAF.out _).mono ?_); rintro e9 w9 ⟨rfl, rfl⟩)
  go_loopw [5, 6] (fun v i9 wr => ∃ (k nk : Nat), k ≤ m ∧ i9 = .int .i64 k ∧ v = .int .i64 (nk : Int) ∧ lightW n1 l k = nk ∧ Below w.heap.size w wr) (fun _ i9 _ => m - (intOf i9).toNat)
  case atStart => exact ⟨0, satN 0 n1, by omega, rfl, rfl, rfl, Below.refl _ _⟩
  case round =>
    obtain ⟨k, nk, hk, rfl, rfl, hnk, hB⟩ := hrel
    have hn5 : nk ≤ 5001 := by rw [← hnk]; exact lightW_le _ _ _
    have HNK := Lib.hid hnk
    have HB := Lib.hid hB
    clear hnk hB
    by_cases hkm : k < m
    · have hki : (k : Int) < (m : Int) := by omega
      have hkc : (k : Int) < (cap2 : Int) := by omega
      by_cases hf : 5000 < nk
      · have hfi : ¬ (nk : Int) ≤ 5000 := by omega
        have HRN := Lib.hid (show R = 5001 by rw [← HR.out]; exact lightW_full (k := k) (by rw [HNK.out]; exact hf) m hk)
        have hd : decide (R ≤ 5000) = false := by rw [HRN.out]; rfl
        have HD := Lib.hid hd
        clear hd
        go_wp2
        go_ret
        exact ⟨by rw [HD.out]; rfl, HB.out⟩
      · have hfi : (nk : Int) ≤ 5000 := by omega
        obtain ⟨bk, off, rfl, hat⟩ := HL.out.place hkm
        have hm1 : l.getD k Wr.zero ∈ l := mem_getDw (by omega)
        have hcx := HX.out _ hm1
        have hst : lightW n1 l (k + 1) = satN (satN (satN nk 10) (l.getD k Wr.zero).k.length) (l.getD k Wr.zero).v.length := by rw [← HNK.out]; rfl
        obtain ⟨y, hy⟩ : ∃ y, l.getD k Wr.zero = y := ⟨_, rfl⟩
        rw [hy] at hat hcx hst
        obtain ⟨kx, ix, gx, vx⟩ := y
        simp only at hat hcx hst
        have HST := Lib.hid hst
        have HAT := Lib.hid (fun W (h : Below wr.heap.size wr W) => hat W (HB.out.trans (h.mono HB.out.size)))
        have HSZ := Lib.hid (show ((text kx).size : Int) = (kx.length : Int) by rw [text_size])
        have HSZ2 := Lib.hid (show ((text vx).size : Int) = (vx.length : Int) by rw [text_size])
        have HA0 := Lib.hid (fun W => show Calls Tryd.prog 27 #[.int .i64 (nk : Int), .int .i64 10, .int .i64 5000] W _ from radd_c nk 10 hn5 (by omega) W)
        have HA1 := Lib.hid (fun W => radd_c (satN nk 10) kx.length (satN_le _ _) hcx.1 W)
        have HA2 := Lib.hid (fun W => radd_c (satN (satN nk 10) kx.length) vx.length (satN_le _ _) hcx.2 W)
        clear hat hm1 hcx hst hy
        go_upto_region 5 with (fail)
        refine wp_region_flow_tail 15 [none, none, none, none, none, none, none, none, none, none, none, none, none, none, none, none, none, none, none, none, some 0, some 1, some 2, some 3, some 4, some 5, some 6, some 7, some 8, some 9, some 10, some 11, some 12, some 13, some 14, none, none, none] (fun i => [u20, u21, u22, u23, u24, u25, u26, u27, u28, u29, u30, u31, u32, u33, u34].getD i undef) [(fun v _ => v = .int .i64 (nk : Int)), (fun v _ => v = .int .i64 ((satN nk 10 : Nat) : Int)), (fun v _ => v = .slice (some ⟨bk, off, none⟩) m cap2), (fun v _ => v = .int .i64 (k : Int)), (fun v _ => v = .pointer (some ⟨bk, off + k * 4, none⟩)), (fun v _ => v = .pointer (some ⟨bk, off + k * 4, none⟩)), (fun v _ => v = .string (text kx)), (fun v _ => v = .int .i64 (kx.length : Int)), (fun v _ => v = .int .i64 ((satN (satN nk 10) kx.length : Nat) : Int)), (fun v _ => v = .slice (some ⟨bk, off, none⟩) m cap2), (fun v _ => v = .int .i64 (k : Int)), (fun v _ => v = .pointer (some ⟨bk, off + k * 4, none⟩)), (fun v _ => v = .pointer (some ⟨bk, off + k * 4 + 3, none⟩)), (fun v _ => v = .string (text vx)), (fun v _ => v = .int .i64 (vx.length : Int))] (fun _ => False) (by kernel_rfl) (by kernel_rfl) (by kernel_rfl) rfl rfl rfl ?_ ?_ ?_
        · intro g hg v X Y hX hY hv
          simp only [List.mem_cons, List.not_mem_nil, or_false] at hg
          rcases hg with rfl | rfl | rfl | rfl | rfl | rfl | rfl | rfl | rfl | rfl | rfl | rfl | rfl | rfl | rfl
          all_goals first
            | exact hv
            | exact hv.kept hY
        · simp only [flowOpsF, List.take_succ_cons, List.take_zero, and_true]
          refine ⟨?_, ?_, ?_, ?_, ?_, ?_, ?_, ?_, ?_, ?_, ?_, ?_, ?_, ?_, ?_⟩
          · intro xs W hW hn
            simp only [flowAct, List.zipWith_cons_cons, List.zipWith_nil_left]
            go_wp2_with (fail)
            exact ⟨rfl, _, rfl, Below.refl _ _, rfl, fun h => h.elim⟩
          · intro xs W hW hn
            simp [flowNeeds, Region.binds] at hn
            simp only [flowAct, List.zipWith_cons_cons, List.zipWith_nil_left]
            simp only [hn]
            go_wp2_with (go_at_call 27; (with_reducible refine (HA0.out _).mono ?_); rintro e9 w9 ⟨rfl, rfl⟩)
            exact ⟨rfl, _, rfl, Below.refl _ _, rfl, fun h => h.elim⟩
          · intro xs W hW hn
            simp only [flowAct, List.zipWith_cons_cons, List.zipWith_nil_left]
            go_wp2_with (fail)
            exact ⟨rfl, _, rfl, Below.refl _ _, rfl, fun h => h.elim⟩
          · intro xs W hW hn
            simp only [flowAct, List.zipWith_cons_cons, List.zipWith_nil_left]
            go_wp2_with (fail)
            exact ⟨rfl, _, rfl, Below.refl _ _, rfl, fun h => h.elim⟩
          · intro xs W hW hn
            simp [flowNeeds, Region.binds] at hn
            simp only [flowAct, List.zipWith_cons_cons, List.zipWith_nil_left]
            try simp only [hn]
            go_wp2_with (fail)
            exact ⟨rfl, _, rfl, Below.refl _ _, rfl, fun h => h.elim⟩
          · intro xs W hW hn
            simp [flowNeeds, Region.binds] at hn
            simp only [flowAct, List.zipWith_cons_cons, List.zipWith_nil_left]
            try simp only [hn]
            go_wp2_with (fail)
            exact ⟨rfl, _, rfl, Below.refl _ _, rfl, fun h => h.elim⟩
          · intro xs W hW hn
            obtain ⟨p0, p1, p2, p3⟩ := HAT.out W hW
            simp [flowNeeds, Region.binds] at hn
            simp only [flowAct, List.zipWith_cons_cons, List.zipWith_nil_left]
            try simp only [hn]
            go_wp2_with (fail)
            exact ⟨rfl, _, rfl, Below.refl _ _, rfl, fun h => h.elim⟩
          · intro xs W hW hn
            have hsz := HSZ.out
            simp [flowNeeds, Region.binds] at hn
            simp only [flowAct, List.zipWith_cons_cons, List.zipWith_nil_left]
            try simp only [hn]
            go_wp2_with (fail)
            exact ⟨rfl, _, rfl, Below.refl _ _, rfl, fun h => h.elim⟩
          · intro xs W hW hn
            simp [flowNeeds, Region.binds] at hn
            simp only [flowAct, List.zipWith_cons_cons, List.zipWith_nil_left]
            simp only [hn]
            go_wp2_with (go_at_call 27; (with_reducible refine (HA1.out _).mono ?_); rintro e9 w9 ⟨rfl, rfl⟩)
            exact ⟨rfl, _, rfl, Below.refl _ _, rfl, fun h => h.elim⟩
          · intro xs W hW hn
            simp only [flowAct, List.zipWith_cons_cons, List.zipWith_nil_left]
            go_wp2_with (fail)
            exact ⟨rfl, _, rfl, Below.refl _ _, rfl, fun h => h.elim⟩
          · intro xs W hW hn
            simp only [flowAct, List.zipWith_cons_cons, List.zipWith_nil_left]
            go_wp2_with (fail)
            exact ⟨rfl, _, rfl, Below.refl _ _, rfl, fun h => h.elim⟩
          · intro xs W hW hn
            simp [flowNeeds, Region.binds] at hn
            simp only [flowAct, List.zipWith_cons_cons, List.zipWith_nil_left]
            try simp only [hn]
            go_wp2_with (fail)
            exact ⟨rfl, _, rfl, Below.refl _ _, rfl, fun h => h.elim⟩
          · intro xs W hW hn
            simp [flowNeeds, Region.binds] at hn
            simp only [flowAct, List.zipWith_cons_cons, List.zipWith_nil_left]
            try simp only [hn]
            go_wp2_with (fail)
            exact ⟨rfl, _, rfl, Below.refl _ _, rfl, fun h => h.elim⟩
          · intro xs W hW hn
            obtain ⟨p0, p1, p2, p3⟩ := HAT.out W hW
            simp [flowNeeds, Region.binds] at hn
            simp only [flowAct, List.zipWith_cons_cons, List.zipWith_nil_left]
            try simp only [hn]
            go_wp2_with (fail)
            exact ⟨rfl, _, rfl, Below.refl _ _, rfl, fun h => h.elim⟩
          · intro xs W hW hn
            have hsz2 := HSZ2.out
            simp [flowNeeds, Region.binds] at hn
            simp only [flowAct, List.zipWith_cons_cons, List.zipWith_nil_left]
            try simp only [hn]
            go_wp2_with (fail)
            exact ⟨rfl, _, rfl, Below.refl _ _, rfl, fun h => h.elim⟩
        · intro xs W hW hall hfr
          clear hfr
          simp only [flowAll, and_true, Nat.zero_add, Nat.reduceAdd] at hall
          obtain ⟨-, -, -, -, -, -, -, -, e8, -, -, -, -, -, e14⟩ := hall
          simp only [flowAct, List.zipWith_cons_cons, List.zipWith_nil_left, List.drop_succ_cons, List.drop_zero]
          simp only [e8, e14]
          have HB5 := Lib.hid (HB.out.trans (hW.mono HB.out.size))
          clear hW e8 e14 HA0 HA1 HAT HSZ HSZ2
          go_wp2_with (go_at_call 27; (with_reducible refine (HA2.out _).mono ?_); rintro e9 w9 ⟨rfl, rfl⟩)
          go_roundw
          case rel => exact ⟨k + 1, _, by omega, by go_num, rfl, HST.out, HB5.out⟩
          case measure => simp [intOf]; omega
    · obtain rfl : k = m := by omega
      have hfd : decide ((nk : Int) ≤ 5000) = decide (nk ≤ 5000) := by simp only [decide_eq_decide]; omega
      have HD := Lib.hid (show decide ((nk : Int) ≤ 5000) = decide (R ≤ 5000) by rw [hfd, ← HNK.out, HR.out])
      clear hfd
      go_wp2
      go_ret
      exact ⟨by rw [← HD.out]; rfl, HB.out⟩
theorem chschema_c (w : World) : Calls Tryd.prog 28 #[] w (fun e w' => ∃ v, e = .returned v ∧ SchV v w' ∧ Below w.heap.size w w') := by
  go_enter Tryd.func28, Tryd.ntmps28
  go_wp2
  go_ret
  exact ⟨_, rfl, ⟨_, rfl, heap_alloc_new _ _⟩, alloc_below _ _⟩
def exW : List Wr := [⟨[107], 0, false, [120]⟩]
theorem ex_good : chgoodS exG 1 1 1 1 1 0 exW = 0 := by decide +kernel
theorem ex_put : chputS [] exG 1 1 1 1 1 0 exW = [1, 1, 2, 1, 0, 1, 1, 107, 0, 0, 1, 120] := by decide +kernel
theorem ex_short : WShort exW := by
  intro c hc
  rw [List.mem_singleton.1 hc]
  exact ⟨by decide, by decide⟩
set_option maxRecDepth 100000 in
set_option maxHeartbeats 6400000 in
theorem chlives_c {w : World} (hT : TabW w) : Calls Tryd.prog 10 #[] w (Tells (.bool true) w) := by
  have hGD := fun (W : World) (a x2 : Option Addr) (hg : Grs W a 2 2 exG) (hl : Wrs W x2 1 1 exW) => chgood_c hg (by decide) hl ex_short 1 1 1 1 1 0
  simp only [ex_good] at hGD
  have hPT := fun (W : World) (a x2 : Option Addr) (hg : Grs W a 2 2 exG) (hl : Wrs W x2 1 1 exW) (hT : TabW W) => chput_c (ad := none) (m9 := 0) (cap9 := 0) (by9 := []) ⟨rfl, Nat.le_refl _, by omega, .inl rfl⟩ (by omega) hg (by decide) hl ex_short hT 1 1 1 1 1 0
  simp only [ex_put] at hPT
  obtain ⟨X, hX⟩ : ∃ X, ([1, 1, 2, 1, 0, 1, 1, 107, 0, 0, 1, 120] : List UInt8) = X := ⟨_, rfl⟩
  have hcv := fun (W : World) (a : Option Addr) (c n : Nat) (h : Bys W a n c X) => conv_bys (P := Tryd.prog) (src := 50) (dst := 9) (e := 5) h Tryd.underlying50 Tryd.underlying5 Tryd.underlying9
  have hT2 : text X = ⟨#[1, 1, 2, 1, 0, 1, 1, 107, 0, 0, 1, 120]⟩ := by rw [← hX]; rfl
  rw [hT2] at hcv
  rw [hX] at hPT
  have HCV := Lib.hid hcv
  have HT := Lib.hid hT
  have hr := heap_alloc_new w (.cells #[.string ⟨#[107]⟩, .int .i64 0, .bool false, .string ⟨#[120]⟩] 31)
  have hb := alloc_below w (.cells #[.string ⟨#[107]⟩, .int .i64 0, .bool false, .string ⟨#[120]⟩] 31)
  clear hcv hT hT2 hX
  go_enter Tryd.func10, Tryd.ntmps10
  go_upto_region 2 with (fail)
  obtain ⟨q1, hq1⟩ : ∃ q, w.heap.size = q := ⟨_, rfl⟩
  have hs1 := World.size_alloc w (.cells #[.string ⟨#[107]⟩, .int .i64 0, .bool false, .string ⟨#[120]⟩] 31)
  rw [hq1] at hr hs1
  try rw [hq1]
  generalize w.alloc (.cells #[.string ⟨#[107]⟩, .int .i64 0, .bool false, .string ⟨#[120]⟩] 31) = V1 at *
  have hr2 := heap_alloc_new V1 (.cells #[.int .i64 1, .int .i64 1, .int .i64 1, .int .i64 1, .int .i64 1, .int .i64 0, .slice (some ⟨q1, 0, none⟩) 1 1] 29)
  have hb2 := alloc_below V1 (.cells #[.int .i64 1, .int .i64 1, .int .i64 1, .int .i64 1, .int .i64 1, .int .i64 0, .slice (some ⟨q1, 0, none⟩) 1 1] 29)
  rw [hs1] at hr2
  obtain ⟨q2, hq2⟩ : ∃ q, q1 + 1 = q := ⟨_, rfl⟩
  rw [hq2] at hr2 hs1
  try rw [hs1]
  try rw [hq2]
  have HB := Lib.hid (hb.trans (hb2.mono hb.size))
  have hrw := heap_below hr hb2
  clear hr hb hb2 hs1 hq1 hq2
  generalize V1.alloc (.cells #[.int .i64 1, .int .i64 1, .int .i64 1, .int .i64 1, .int .i64 1, .int .i64 0, .slice (some ⟨q1, 0, none⟩) 1 1] 29) = W1 at *
  have HL := Lib.hid (show Wrs W1 (some ⟨q1, 0, none⟩) 1 1 exW from ⟨rfl, Nat.le_refl _, by omega, .inr ⟨q1, 0, rfl, fun i hi j v hv => by
    obtain rfl : i = 0 := by omega
    have h := cell_of_row W1 q1 j #[.string ⟨#[107]⟩, .int .i64 0, .bool false, .string ⟨#[120]⟩] 31 (0, 0) hrw
    rw [show (0 + 0 * 4 + j) = j by omega]
    exact h.trans hv⟩⟩)
  have HC := Lib.hid (fun W (h : Below W1.heap.size W1 W) => ch_cells (heap_below hr2 h))
  have HGD := Lib.hid (fun (W : World) (a : Option Addr) (hg : Grs W a 2 2 exG) (hl : Wrs W (some ⟨q1, 0, none⟩) 1 1 exW) => hGD W a _ hg hl)
  have HPT := Lib.hid (fun (W : World) (a : Option Addr) (hg : Grs W a 2 2 exG) (hl : Wrs W (some ⟨q1, 0, none⟩) 1 1 exW) (hT : TabW W) => hPT W a _ hg hl hT)
  clear hGD hPT hr2 hrw
  refine wp_region_flow_tail 11 [none, none, none, none, none, none, none, some 0, some 1, some 2, some 3, some 4, some 5, some 6, some 7, some 8, some 9, some 10] (fun i => [undef, undef, undef, undef, undef, undef, undef, undef, undef, undef, undef].getD i undef) [SchV, (fun v _ => v = .agg #[.int .i64 1, .int .i64 1, .int .i64 1, .int .i64 1, .int .i64 1, .int .i64 0, .slice (some ⟨q1, 0, none⟩) 1 1]), (fun v _ => v = .int .i64 0), (fun v _ => v = .bool true), (fun v _ => v = .bool true), SchV, (fun v _ => v = .agg #[.int .i64 1, .int .i64 1, .int .i64 1, .int .i64 1, .int .i64 1, .int .i64 0, .slice (some ⟨q1, 0, none⟩) 1 1]), (fun v W => OwnB W 0 5 v X), (fun v _ => v = .string ⟨#[1, 1, 2, 1, 0, 1, 1, 107, 0, 0, 1, 120]⟩), (fun v _ => v = .bool true), (fun v _ => v = .bool true)] (fun _ => False) (by kernel_rfl) (by kernel_rfl) (by kernel_rfl) rfl rfl rfl ?_ ?_ ?_
  · intro g hg v X Y hX hY hv
    simp only [List.mem_cons, List.not_mem_nil, or_false] at hg
    rcases hg with rfl | rfl | rfl | rfl | rfl | rfl | rfl | rfl | rfl | rfl | rfl
    all_goals first
      | exact hv
      | exact hv.kept hY
  · simp only [flowOpsF, List.take_succ_cons, List.take_zero, and_true]
    refine ⟨?_, ?_, ?_, ?_, ?_, ?_, ?_, ?_, ?_, ?_, ?_⟩
    · intro xs W hW hn
      simp only [flowAct, List.zipWith_cons_cons, List.zipWith_nil_left]
      go_wp2_with (go_at_call 28; (with_reducible refine (chschema_c _).mono ?_); rintro e9 w9 ⟨v9, rfl, hs9, hb9⟩)
      exact ⟨rfl, _, rfl, hb9, hs9, fun h => h.elim⟩
    · intro xs W hW hn
      obtain ⟨c0, c1, c2, c3, c4, c5, c6⟩ := HC.out W hW
      simp only [flowAct, List.zipWith_cons_cons, List.zipWith_nil_left]
      go_wp2_with (fail)
      exact ⟨rfl, _, rfl, Below.refl _ _, rfl, fun h => h.elim⟩
    · intro xs W hW hn
      simp [flowNeeds, Region.binds] at hn
      simp only [flowAct, List.zipWith_cons_cons, List.zipWith_nil_left]
      obtain ⟨hs9, hrest⟩ := hn
      obtain ⟨q9, e8, hg9⟩ := SchV.grs hs9
      simp only [e8, hrest]
      go_wp2_with (go_at_call 13; (with_reducible refine (HGD.out _ _ hg9 (HL.out.below hW)).mono ?_); rintro e9 w9 ⟨rfl, hb9⟩)
      exact ⟨rfl, _, rfl, hb9, rfl, fun h => h.elim⟩
    · intro xs W hW hn
      simp [flowNeeds, Region.binds] at hn
      simp only [flowAct, List.zipWith_cons_cons, List.zipWith_nil_left]
      try simp only [hn]
      go_wp2_with (fail)
      exact ⟨rfl, _, rfl, Below.refl _ _, rfl, fun h => h.elim⟩
    · intro xs W hW hn
      simp [flowNeeds, Region.binds] at hn
      simp only [flowAct, List.zipWith_cons_cons, List.zipWith_nil_left]
      try simp only [hn]
      go_wp2_with (fail)
      exact ⟨rfl, _, rfl, Below.refl _ _, rfl, fun h => h.elim⟩
    · intro xs W hW hn
      try simp [flowNeeds, Region.binds] at hn
      simp only [flowAct, List.zipWith_cons_cons, List.zipWith_nil_left]
      try simp only [hn]
      go_wp2_with (go_at_call 28; (with_reducible refine (chschema_c _).mono ?_); rintro e9 w9 ⟨v9, rfl, hs9, hb9⟩)
      exact ⟨rfl, _, rfl, hb9, hs9, fun h => h.elim⟩
    · intro xs W hW hn
      obtain ⟨c0, c1, c2, c3, c4, c5, c6⟩ := HC.out W hW
      simp [flowNeeds, Region.binds] at hn
      simp only [flowAct, List.zipWith_cons_cons, List.zipWith_nil_left]
      try simp only [hn]
      go_wp2_with (fail)
      exact ⟨rfl, _, rfl, Below.refl _ _, rfl, fun h => h.elim⟩
    · intro xs W hW hn
      simp [flowNeeds, Region.binds] at hn
      simp only [flowAct, List.zipWith_cons_cons, List.zipWith_nil_left]
      obtain ⟨hs9, e9, hrest⟩ := hn
      obtain ⟨q9, e8, hg9⟩ := SchV.grs hs9
      simp only [e8, e9, hrest]
      go_wp2_with (go_at_call 23; (with_reducible refine (HPT.out _ _ hg9 (HL.out.below hW) (HT.out.below (HB.out.trans (hW.mono HB.out.size)))).mono ?_); rintro e9 w9 ⟨v9, rfl, ho9, hb9⟩)
      exact ⟨rfl, _, rfl, hb9, ho9.mono (Nat.zero_le _), fun h => h.elim⟩
    · intro xs W hW hn
      simp [flowNeeds, Region.binds] at hn
      simp only [flowAct, List.zipWith_cons_cons, List.zipWith_nil_left]
      obtain ⟨ho, hrest⟩ := hn
      obtain ⟨a3, c3, e3, hy3⟩ := OwnB.bys ho
      have hcv := HCV.out _ _ _ _ hy3
      simp only [e3, hrest]
      go_wp2_with (fail)
      exact ⟨rfl, _, rfl, Below.refl _ _, rfl, fun h => h.elim⟩
    · intro xs W hW hn
      simp [flowNeeds, Region.binds] at hn
      simp only [flowAct, List.zipWith_cons_cons, List.zipWith_nil_left]
      try simp only [hn]
      go_wp2_with (fail)
      exact ⟨rfl, _, rfl, Below.refl _ _, rfl, fun h => h.elim⟩
    · intro xs W hW hn
      simp [flowNeeds, Region.binds] at hn
      simp only [flowAct, List.zipWith_cons_cons, List.zipWith_nil_left]
      try simp only [hn]
      go_wp2_with (fail)
      exact ⟨rfl, _, rfl, Below.refl _ _, rfl, fun h => h.elim⟩
  · intro xs W hW hall hfr
    clear hfr
    simp only [flowAll, and_true, Nat.zero_add, Nat.reduceAdd] at hall
    obtain ⟨-, -, -, -, -, -, -, -, -, -, e10⟩ := hall
    simp only [flowAct, List.zipWith_cons_cons, List.zipWith_nil_left, List.drop_succ_cons, List.drop_zero]
    simp only [e10]
    go_wp2
    go_ret
    exact ⟨rfl, HB.out.trans (hW.mono HB.out.size)⟩
end Go.Proofs.YtfkmfccdhmnllaaDoor
end

section
namespace Go.Proofs.YtfkmfccdhmnllaaDoor
open Go.RowKit Go Go.Sort
set_option linter.unusedVariables false
set_option maxRecDepth 20000

set_option maxRecDepth 100000 in
set_option maxHeartbeats 12800000 in
theorem chchecks_walk {w : World} {x x2 : Option Addr} {n1 cap m cap2 : Nat} {gs : List Grp} {ws : List Wr} (hg : Grs w x n1 cap gs) (hs : ∀ g ∈ gs, g.1.length ≤ 9223372036854775807)
    (hl : Wrs w x2 m cap2 ws) (hx : WShort ws) (site seq n s a b : Int) (key2 : List UInt8) (hk2 : key2.length ≤ 9223372036854775807) (i2 : Int) (g2 : Bool) (t2 : List UInt8) (hT : TabW w) :
    Calls Tryd.prog 3 #[.slice x n1 cap, .agg #[.int .i64 site, .int .i64 seq, .int .i64 n, .int .i64 s, .int .i64 a, .int .i64 b, .slice x2 m cap2], .agg #[.string (text key2), .int .i64 i2, .bool g2, .string (text t2)]] w (Tells (.bool true) w) := by
  have hgle := hg.le
  have hgmx := hg.max
  have hle2 := hl.le
  have hmax2 := hl.max
  have HLv := Lib.hid (fun W (h : Below w.heap.size w W) => chlives_c (hT.below h))
  have hLT := fun W (h : Below w.heap.size w W) => lightw_c (x := x) (n1 := n1) (cap := cap) (by omega) (hl.below h) hx
  have hG := fun W (h : Below w.heap.size w W) => chgood_c (hg.below h) hs (hl.below h) hx site seq n s a b
  have hRG := fun W (h : Below w.heap.size w W) => rchgood_c (hg.below h) hs (hl.below h) hx site seq n s a b
  have hRW := fun W (h : Below w.heap.size w W) => chrows_c (hg.below h) hs (hl.below h) hx site seq n s a b
  have hRR := fun W (h : Below w.heap.size w W) => rchrows_c (hg.below h) hs (hl.below h) hx site seq n s a b
  have hHS := fun W (h : Below w.heap.size w W) => has_c (hl.below h) site seq n s a b key2 i2
  obtain ⟨L, hL⟩ : ∃ q, decide (lightW n1 ws m ≤ 5000) = q := ⟨_, rfl⟩
  simp only [hL] at hLT
  obtain ⟨R, hR⟩ : ∃ q, chgoodS gs site seq n s a b ws = q := ⟨_, rfl⟩
  simp only [hR] at hG hRG
  obtain ⟨⟨Rr, Re⟩, hRS⟩ : ∃ q, chrowsS gs site seq n s a b ws = q := ⟨_, rfl⟩
  simp only [hRS] at hRW hRR
  obtain ⟨H, hH⟩ : ∃ q, hasN ws key2 i2 m = q := ⟨_, rfl⟩
  simp only [hH] at hHS
  have HHN := Lib.hid hH
  have HSZ := Lib.hid (show ((text key2).size : Int) = (key2.length : Int) by rw [text_size])
  have HL := Lib.hid hl
  have HLT := Lib.hid hLT
  have HG := Lib.hid hG
  have HRG := Lib.hid hRG
  have HRW := Lib.hid hRW
  have HRR := Lib.hid hRR
  have HHS := Lib.hid hHS
  have hB := alloc_below w (.cells #[.int .i64 site, .int .i64 seq, .int .i64 n, .int .i64 s, .int .i64 a, .int .i64 b, .slice x2 m cap2] 29)
  have hr := heap_alloc_new w (.cells #[.int .i64 site, .int .i64 seq, .int .i64 n, .int .i64 s, .int .i64 a, .int .i64 b, .slice x2 m cap2] 29)
  have hsz := World.size_alloc w (.cells #[.int .i64 site, .int .i64 seq, .int .i64 n, .int .i64 s, .int .i64 a, .int .i64 b, .slice x2 m cap2] 29)
  clear hLT hG hRG hRW hRR hHS hL hR hRS hH hg hs hl hx hT hgle hgmx
  go_enter Tryd.func3, Tryd.ntmps3
  go_upto_region 1 with (fail)
  obtain ⟨B, hBe⟩ : ∃ q, w.heap.size = q := ⟨_, rfl⟩
  have HBe := Lib.hid hBe
  rw [hBe] at hr hsz
  try rw [hBe]
  clear hBe
  generalize w.alloc (.cells #[.int .i64 site, .int .i64 seq, .int .i64 n, .int .i64 s, .int .i64 a, .int .i64 b, .slice x2 m cap2] 29) = W1 at *
  have hr2 := heap_alloc_new W1 (.cells #[.string (text key2), .int .i64 i2, .bool g2, .string (text t2)] 31)
  have hb2 := alloc_below W1 (.cells #[.string (text key2), .int .i64 i2, .bool g2, .string (text t2)] 31)
  rw [hsz] at hr2
  try rw [hsz]
  have hrx := heap_below hr hb2
  have HB2 := Lib.hid (hB.trans (hb2.mono hB.size))
  clear hr hB hb2 hsz
  generalize W1.alloc (.cells #[.string (text key2), .int .i64 i2, .bool g2, .string (text t2)] 31) = W2 at *
  have HCX := Lib.hid (fun W (h : Below W2.heap.size W2 W) => And.intro (ch_cells (heap_below hrx h)) (wr_cells (heap_below hr2 h)))
  clear hrx hr2
  obtain ⟨⟨r0, r1, r2, r3, r4, r5, r6⟩, q0, q1, q2, q3⟩ := HCX.out W2 (Below.refl _ _)
  have HLC := Lib.hid (HLT.out _ HB2.out)
  have hsz2 := HSZ.out
  clear HLT
  cases L with
  | false =>
    go_wp2_with (first
      | (go_at_call 9; (with_reducible refine HLC.out.mono ?_); rintro e9 w3 ⟨rfl, hb9⟩; have HB3 := Lib.hid (HB2.out.trans (hb9.mono HB2.out.size)); have HW3 := Lib.hid hb9; obtain ⟨-, s0, s1, s2, s3⟩ := HCX.out _ hb9; clear hb9)
      | (go_at_call 10; (with_reducible refine (HLv.out _ HB3.out).mono ?_); rintro e9 w8 ⟨rfl, hb9⟩; have HB4 := Lib.hid (HB3.out.trans (hb9.mono HB3.out.size)); clear hb9))
    go_ret
    exact ⟨rfl, HB4.out⟩
  | true =>
    by_cases h9 : 1000 < key2.length
    · have h9i : (1000 : Int) < (key2.length : Int) := by omega
      go_wp2_with (first
        | (go_at_call 9; (with_reducible refine HLC.out.mono ?_); rintro e9 w3 ⟨rfl, hb9⟩; have HB3 := Lib.hid (HB2.out.trans (hb9.mono HB2.out.size)); have HW3 := Lib.hid hb9; obtain ⟨-, s0, s1, s2, s3⟩ := HCX.out _ hb9; clear hb9)
        | (go_at_call 10; (with_reducible refine (HLv.out _ HB3.out).mono ?_); rintro e9 w8 ⟨rfl, hb9⟩; have HB4 := Lib.hid (HB3.out.trans (hb9.mono HB3.out.size)); clear hb9))
      go_ret
      exact ⟨rfl, HB4.out⟩
    · have h9i : ¬ (1000 : Int) < (key2.length : Int) := by omega
      go_upto_region 3 with (go_at_call 9; (with_reducible refine HLC.out.mono ?_); rintro e9 w3 ⟨rfl, hb9⟩; have HB3 := Lib.hid (HB2.out.trans (hb9.mono HB2.out.size)); have HW3 := Lib.hid hb9; obtain ⟨-, s0, s1, s2, s3⟩ := HCX.out _ hb9; clear hb9)
      clear r0 r1 r2 r3 r4 r5 r6 q0 q1 q2 q3 hsz2 h9i
      obtain ⟨⟨r0, r1, r2, r3, r4, r5, r6⟩, -⟩ := HCX.out _ HW3.out
      go_upto_region 4 with (go_at_call 11; (with_reducible refine (HRW.out _ HB3.out).mono ?_); rintro e9 w4 ⟨va, La, rfl, hoa, hpa, hb9⟩; obtain ⟨aa, ca, rfl, hla⟩ := hoa.at; have HB4 := Lib.hid (HB3.out.trans (hb9.mono HB3.out.size)); have HW4 := Lib.hid (HW3.out.trans (hb9.mono HW3.out.size)); have HPA := Lib.hid hpa; have HLA4 := Lib.hid hla; clear hb9 hoa hpa hla)
      clear r0 r1 r2 r3 r4 r5 r6 HLC HRW
      obtain ⟨la, hla⟩ : ∃ z, La.length = z := ⟨_, rfl⟩
      rw [hla] at HLA4 ⊢
      obtain ⟨⟨r0, r1, r2, r3, r4, r5, r6⟩, -⟩ := HCX.out _ HW4.out
      go_upto_region 5 with (go_at_call 12; (with_reducible refine (HRR.out _ HB4.out).mono ?_); rintro e9 w5 ⟨vb, Lb, rfl, hob, hpb, hb9⟩; obtain ⟨ab, cb, rfl, hlb⟩ := hob.at; have HB5 := Lib.hid (HB4.out.trans (hb9.mono HB4.out.size)); have HW5 := Lib.hid (HW4.out.trans (hb9.mono HW4.out.size)); have HPB := Lib.hid hpb; have HLA5 := Lib.hid (HLA4.out.below hb9); have HLB5 := Lib.hid hlb; clear hb9 hob hpb hlb)
      clear r0 r1 r2 r3 r4 r5 r6 HB3 HW3 HB4 HW4 HLA4 HRR
      have hlb : Lb.length = la := by
        have h1 := congrArg List.length HPA.out
        have h2 := congrArg List.length HPB.out
        rw [List.length_map] at h1 h2
        omega
      rw [hlb] at HLB5 ⊢
      have HALL := Lib.hid (fun W (h : Below w5.heap.size w5 W) => rall_c (HLA5.out.below h) (HLB5.out.below h) (HPA.out.trans HPB.out.symm))
      clear hla hlb HLA5 HLB5 HPA HPB
      obtain ⟨⟨r0, r1, r2, r3, r4, r5, r6⟩, -⟩ := HCX.out _ HW5.out
      go_upto_region 7 with (fail)
      clear r0 r1 r2 r3 r4 r5 r6
      go_loopw [11, 41] (fun v i wr => ∃ (k : Nat) (h : Bool), k ≤ m ∧ i = .int .i64 (k : Int) ∧ v = .bool h ∧ hasN ws key2 i2 k = h ∧ Below w5.heap.size w5 wr) (fun _ i _ => m - (intOf i).toNat)
      case atStart => exact ⟨0, false, by omega, rfl, rfl, rfl, Below.refl _ _⟩
      case round =>
        obtain ⟨k, h, hk, rfl, rfl, hn, hb⟩ := hrel
        have HN := Lib.hid hn
        have HB := Lib.hid hb
        clear hn hb
        by_cases hlt : k < m
        · have hki : (k : Int) < (m : Int) := by omega
          have hkc : (k : Int) < (cap2 : Int) := by omega
          obtain ⟨bk, off, rfl, hat⟩ := HL.out.place hlt
          have hst : hasN ws key2 i2 (k + 1) = (h || plEq (ws.getD k Wr.zero).k (ws.getD k Wr.zero).i key2 i2) := by rw [← HN.out]; rfl
          obtain ⟨y, hy⟩ : ∃ y, ws.getD k Wr.zero = y := ⟨_, rfl⟩
          rw [hy] at hat hst
          obtain ⟨kx, ix, gx, vx⟩ := y
          simp only at hat hst
          obtain ⟨p0, p1, p2, p3⟩ := hat wr (HB5.out.trans (HB.out.mono HB5.out.size))
          have hte := text_eqb kx key2
          have hpl : plEq kx ix key2 i2 = ((kx == key2) && (ix == i2)) := by unfold plEq; congr 1; rw [Bool.eq_iff_iff]; simp
          rw [hpl] at hst
          obtain ⟨Q1, hQ1⟩ : ∃ z, (kx == key2) = z := ⟨_, rfl⟩
          obtain ⟨Q2, hQ2⟩ : ∃ z, (ix == i2) = z := ⟨_, rfl⟩
          rw [hQ1] at hte hst
          rw [hQ2] at hst
          have HST := Lib.hid hst
          have HTE := Lib.hid hte
          have HQ2 := Lib.hid hQ2
          clear hat hst hy hpl hQ1 hQ2 hte
          go_upto_region 9 with (fail)
          clear p0 p1 p2 p3
          have hal := alloc_below wr (.cells #[.string (text kx), .int .i64 ix, .bool gx, .string (text vx)] 31)
          have hq := heap_alloc_new wr (.cells #[.string (text kx), .int .i64 ix, .bool gx, .string (text vx)] 31)
          obtain ⟨gw, hgw⟩ : ∃ z, wr.heap.size = z := ⟨_, rfl⟩
          rw [hgw] at hq
          try rw [hgw]
          have HB6 := Lib.hid (HB.out.trans (hal.mono HB.out.size))
          clear hgw hal HB
          generalize wr.alloc (.cells #[.string (text kx), .int .i64 ix, .bool gx, .string (text vx)] 31) = W6 at *
          obtain ⟨p0, p1, p2, p3⟩ := wr_cells hq
          obtain ⟨-, q0, q1, q2, q3⟩ := HCX.out _ (HW5.out.trans (HB6.out.mono HW5.out.size))
          clear hq
          have hte := HTE.out
          have hq2 := HQ2.out
          cases h <;> cases Q1 <;> cases Q2
          all_goals
            go_wp2
            go_roundw
            case rel => exact ⟨k + 1, _, by omega, by go_num, rfl, HST.out, HB6.out⟩
            case measure => simp [intOf]; omega
        · obtain rfl : m = k := by omega
          have hhn : h = H := HN.out.symm.trans HHN.out
          subst hhn
          have HB6 := Lib.hid (HB5.out.trans (HB.out.mono HB5.out.size))
          have HW6 := Lib.hid (HW5.out.trans (HB.out.mono HW5.out.size))
          have hbb : (h == h) = true := by simp
          go_upto_region 11 with (fail)
          refine wp_region_flow_tail 30 [none, none, none, none, none, none, none, none, none, none, none, none, none, none, none, none, none, none, none, none, none, none, none, none, none, none, none, none, none, none, none, none, none, none, none, none, none, none, none, none, none, none, none, none, none, none, none, none, none, none, none, none, none, none, none, none, none, none, none, none, none, some 0, some 1, some 2, some 3, some 4, some 5, some 6, some 7, some 8, some 9, some 10, some 11, some 12, some 13, some 14, some 15, some 16, some 17, some 18, some 19, some 20, some 21, some 22, some 23, some 24, some 25, some 26, some 27, some 28, some 29] (fun i => [undef, undef, undef, undef, undef, undef, undef, undef, undef, undef, undef, undef, undef, undef, undef, undef, undef, undef, undef, undef, undef, undef, undef, undef, undef, undef, undef, undef, undef, undef].getD i undef) [(fun v _ => v = .slice x n1 cap), (fun v _ => v = .agg #[.int .i64 site, .int .i64 seq, .int .i64 n, .int .i64 s, .int .i64 a, .int .i64 b, .slice x2 m cap2]), (fun v _ => v = .int .i64 R), (fun v _ => v = .slice x n1 cap), (fun v _ => v = .agg #[.int .i64 site, .int .i64 seq, .int .i64 n, .int .i64 s, .int .i64 a, .int .i64 b, .slice x2 m cap2]), (fun v _ => v = .int .i64 R), (fun v _ => v = .bool true), (fun v _ => v = .bool true), (fun v _ => v = .slice aa la ca), (fun v _ => v = .slice ab la cb), (fun v _ => v = .bool true), (fun v _ => v = .bool true), (fun v _ => v = .bool true), (fun v _ => v = .int .i64 Re), (fun v _ => v = .int .i64 Re), (fun v _ => v = .bool true), (fun v _ => v = .bool true), (fun v _ => v = .bool true), (fun v _ => v = .agg #[.int .i64 site, .int .i64 seq, .int .i64 n, .int .i64 s, .int .i64 a, .int .i64 b, .slice x2 m cap2]), (fun v _ => v = .pointer (some ⟨B + 1, 0, none⟩)), (fun v _ => v = .string (text key2)), (fun v _ => v = .pointer (some ⟨B + 1, 1, none⟩)), (fun v _ => v = .int .i64 i2), (fun v _ => v = .bool h), (fun v _ => v = .bool h), (fun v _ => v = .bool true), (fun v _ => v = .bool true), (fun v _ => v = .bool true), (fun v _ => v = .bool true), (fun v _ => v = .bool true)] (fun _ => False) (by kernel_rfl) (by kernel_rfl) (by kernel_rfl) rfl rfl rfl ?_ ?_ ?_
          · intro g hg v X Y hX hY hv
            simp only [List.mem_cons, List.not_mem_nil, or_false] at hg
            rcases hg with rfl | rfl | rfl | rfl | rfl | rfl | rfl | rfl | rfl | rfl | rfl | rfl | rfl | rfl | rfl | rfl | rfl | rfl | rfl | rfl | rfl | rfl | rfl | rfl | rfl | rfl | rfl | rfl | rfl | rfl
            all_goals first
              | exact hv
              | exact hv.kept hY
          · simp only [flowOpsF, List.take_succ_cons, List.take_zero, and_true]
            refine ⟨?_, ?_, ?_, ?_, ?_, ?_, ?_, ?_, ?_, ?_, ?_, ?_, ?_, ?_, ?_, ?_, ?_, ?_, ?_, ?_, ?_, ?_, ?_, ?_, ?_, ?_, ?_, ?_, ?_, ?_⟩
            · intro xs W hW hn
              simp only [flowAct, List.zipWith_cons_cons, List.zipWith_nil_left]
              go_wp2_with (fail)
              exact ⟨rfl, _, rfl, Below.refl _ _, rfl, fun h => h.elim⟩
            · intro xs W hW hn
              obtain ⟨⟨r0, r1, r2, r3, r4, r5, r6⟩, q0, q1, q2, q3⟩ := HCX.out W (HW6.out.trans (hW.mono HW6.out.size))
              simp only [flowAct, List.zipWith_cons_cons, List.zipWith_nil_left]
              go_wp2_with (fail)
              exact ⟨rfl, _, rfl, Below.refl _ _, rfl, fun h => h.elim⟩
            · intro xs W hW hn
              simp [flowNeeds, Region.binds] at hn
              simp only [flowAct, List.zipWith_cons_cons, List.zipWith_nil_left]
              simp only [hn]
              go_wp2_with (go_at_call 13; (with_reducible refine (HG.out _ (HB6.out.trans (hW.mono HB6.out.size))).mono ?_); rintro e9 w9 ⟨rfl, hb9⟩)
              exact ⟨rfl, _, rfl, hb9, rfl, fun h => h.elim⟩
            · intro xs W hW hn
              simp only [flowAct, List.zipWith_cons_cons, List.zipWith_nil_left]
              go_wp2_with (fail)
              exact ⟨rfl, _, rfl, Below.refl _ _, rfl, fun h => h.elim⟩
            · intro xs W hW hn
              obtain ⟨⟨r0, r1, r2, r3, r4, r5, r6⟩, q0, q1, q2, q3⟩ := HCX.out W (HW6.out.trans (hW.mono HW6.out.size))
              simp only [flowAct, List.zipWith_cons_cons, List.zipWith_nil_left]
              go_wp2_with (fail)
              exact ⟨rfl, _, rfl, Below.refl _ _, rfl, fun h => h.elim⟩
            · intro xs W hW hn
              simp [flowNeeds, Region.binds] at hn
              simp only [flowAct, List.zipWith_cons_cons, List.zipWith_nil_left]
              simp only [hn]
              go_wp2_with (go_at_call 14; (with_reducible refine (HRG.out _ (HB6.out.trans (hW.mono HB6.out.size))).mono ?_); rintro e9 w9 ⟨rfl, hb9⟩)
              exact ⟨rfl, _, rfl, hb9, rfl, fun h => h.elim⟩
            · intro xs W hW hn
              simp [flowNeeds, Region.binds] at hn
              simp only [flowAct, List.zipWith_cons_cons, List.zipWith_nil_left]
              try simp only [hn]
              go_wp2_with (fail)
              exact ⟨rfl, _, rfl, Below.refl _ _, rfl, fun h => h.elim⟩
            · intro xs W hW hn
              simp [flowNeeds, Region.binds] at hn
              simp only [flowAct, List.zipWith_cons_cons, List.zipWith_nil_left]
              try simp only [hn]
              go_wp2_with (fail)
              exact ⟨rfl, _, rfl, Below.refl _ _, rfl, fun h => h.elim⟩
            · intro xs W hW hn
              simp [flowNeeds, Region.binds] at hn
              simp only [flowAct, List.zipWith_cons_cons, List.zipWith_nil_left]
              try simp only [hn]
              go_wp2_with (fail)
              exact ⟨rfl, _, rfl, Below.refl _ _, rfl, fun h => h.elim⟩
            · intro xs W hW hn
              simp [flowNeeds, Region.binds] at hn
              simp only [flowAct, List.zipWith_cons_cons, List.zipWith_nil_left]
              try simp only [hn]
              go_wp2_with (fail)
              exact ⟨rfl, _, rfl, Below.refl _ _, rfl, fun h => h.elim⟩
            · intro xs W hW hn
              simp [flowNeeds, Region.binds] at hn
              simp only [flowAct, List.zipWith_cons_cons, List.zipWith_nil_left]
              simp only [hn]
              go_wp2_with (go_at_call 15; (with_reducible refine (HALL.out _ (HB.out.trans (hW.mono HB.out.size))).mono ?_); rintro e9 w9 ⟨rfl, hb9⟩)
              exact ⟨rfl, _, rfl, hb9, rfl, fun h => h.elim⟩
            · intro xs W hW hn
              simp [flowNeeds, Region.binds] at hn
              simp only [flowAct, List.zipWith_cons_cons, List.zipWith_nil_left]
              try simp only [hn]
              go_wp2_with (fail)
              exact ⟨rfl, _, rfl, Below.refl _ _, rfl, fun h => h.elim⟩
            · intro xs W hW hn
              simp [flowNeeds, Region.binds] at hn
              simp only [flowAct, List.zipWith_cons_cons, List.zipWith_nil_left]
              try simp only [hn]
              go_wp2_with (fail)
              exact ⟨rfl, _, rfl, Below.refl _ _, rfl, fun h => h.elim⟩
            · intro xs W hW hn
              simp [flowNeeds, Region.binds] at hn
              simp only [flowAct, List.zipWith_cons_cons, List.zipWith_nil_left]
              try simp only [hn]
              go_wp2_with (fail)
              exact ⟨rfl, _, rfl, Below.refl _ _, rfl, fun h => h.elim⟩
            · intro xs W hW hn
              simp [flowNeeds, Region.binds] at hn
              simp only [flowAct, List.zipWith_cons_cons, List.zipWith_nil_left]
              try simp only [hn]
              go_wp2_with (fail)
              exact ⟨rfl, _, rfl, Below.refl _ _, rfl, fun h => h.elim⟩
            · intro xs W hW hn
              simp [flowNeeds, Region.binds] at hn
              simp only [flowAct, List.zipWith_cons_cons, List.zipWith_nil_left]
              try simp only [hn]
              go_wp2_with (fail)
              exact ⟨rfl, _, rfl, Below.refl _ _, rfl, fun h => h.elim⟩
            · intro xs W hW hn
              simp [flowNeeds, Region.binds] at hn
              simp only [flowAct, List.zipWith_cons_cons, List.zipWith_nil_left]
              try simp only [hn]
              go_wp2_with (fail)
              exact ⟨rfl, _, rfl, Below.refl _ _, rfl, fun h => h.elim⟩
            · intro xs W hW hn
              simp [flowNeeds, Region.binds] at hn
              simp only [flowAct, List.zipWith_cons_cons, List.zipWith_nil_left]
              try simp only [hn]
              go_wp2_with (fail)
              exact ⟨rfl, _, rfl, Below.refl _ _, rfl, fun h => h.elim⟩
            · intro xs W hW hn
              obtain ⟨⟨r0, r1, r2, r3, r4, r5, r6⟩, q0, q1, q2, q3⟩ := HCX.out W (HW6.out.trans (hW.mono HW6.out.size))
              simp [flowNeeds, Region.binds] at hn
              simp only [flowAct, List.zipWith_cons_cons, List.zipWith_nil_left]
              try simp only [hn]
              go_wp2_with (fail)
              exact ⟨rfl, _, rfl, Below.refl _ _, rfl, fun h => h.elim⟩
            · intro xs W hW hn
              simp [flowNeeds, Region.binds] at hn
              simp only [flowAct, List.zipWith_cons_cons, List.zipWith_nil_left]
              try simp only [hn]
              go_wp2_with (fail)
              exact ⟨rfl, _, rfl, Below.refl _ _, rfl, fun h => h.elim⟩
            · intro xs W hW hn
              obtain ⟨⟨r0, r1, r2, r3, r4, r5, r6⟩, q0, q1, q2, q3⟩ := HCX.out W (HW6.out.trans (hW.mono HW6.out.size))
              simp [flowNeeds, Region.binds] at hn
              simp only [flowAct, List.zipWith_cons_cons, List.zipWith_nil_left]
              try simp only [hn]
              go_wp2_with (fail)
              exact ⟨rfl, _, rfl, Below.refl _ _, rfl, fun h => h.elim⟩
            · intro xs W hW hn
              simp [flowNeeds, Region.binds] at hn
              simp only [flowAct, List.zipWith_cons_cons, List.zipWith_nil_left]
              try simp only [hn]
              go_wp2_with (fail)
              exact ⟨rfl, _, rfl, Below.refl _ _, rfl, fun h => h.elim⟩
            · intro xs W hW hn
              obtain ⟨⟨r0, r1, r2, r3, r4, r5, r6⟩, q0, q1, q2, q3⟩ := HCX.out W (HW6.out.trans (hW.mono HW6.out.size))
              simp [flowNeeds, Region.binds] at hn
              simp only [flowAct, List.zipWith_cons_cons, List.zipWith_nil_left]
              try simp only [hn]
              go_wp2_with (fail)
              exact ⟨rfl, _, rfl, Below.refl _ _, rfl, fun h => h.elim⟩
            · intro xs W hW hn
              simp [flowNeeds, Region.binds] at hn
              simp only [flowAct, List.zipWith_cons_cons, List.zipWith_nil_left]
              simp only [hn]
              go_wp2_with (go_at_call 16; (with_reducible refine (HHS.out _ (HB6.out.trans (hW.mono HB6.out.size))).mono ?_); rintro e9 w9 ⟨rfl, hb9⟩)
              exact ⟨rfl, _, rfl, hb9, rfl, fun h => h.elim⟩
            · intro xs W hW hn
              simp [flowNeeds, Region.binds] at hn
              simp only [flowAct, List.zipWith_cons_cons, List.zipWith_nil_left]
              try simp only [hn]
              go_wp2_with (fail)
              exact ⟨rfl, _, rfl, Below.refl _ _, rfl, fun h => h.elim⟩
            · intro xs W hW hn
              have hbb2 := hbb
              simp [flowNeeds, Region.binds] at hn
              simp only [flowAct, List.zipWith_cons_cons, List.zipWith_nil_left]
              try simp only [hn]
              go_wp2_with (fail)
              exact ⟨rfl, _, rfl, Below.refl _ _, rfl, fun h => h.elim⟩
            · intro xs W hW hn
              simp [flowNeeds, Region.binds] at hn
              simp only [flowAct, List.zipWith_cons_cons, List.zipWith_nil_left]
              try simp only [hn]
              go_wp2_with (fail)
              exact ⟨rfl, _, rfl, Below.refl _ _, rfl, fun h => h.elim⟩
            · intro xs W hW hn
              simp [flowNeeds, Region.binds] at hn
              simp only [flowAct, List.zipWith_cons_cons, List.zipWith_nil_left]
              try simp only [hn]
              go_wp2_with (fail)
              exact ⟨rfl, _, rfl, Below.refl _ _, rfl, fun h => h.elim⟩
            · intro xs W hW hn
              simp [flowNeeds, Region.binds] at hn
              simp only [flowAct, List.zipWith_cons_cons, List.zipWith_nil_left]
              simp only [hn]
              go_wp2_with (go_at_call 10; (with_reducible refine (HLv.out _ (HB6.out.trans (hW.mono HB6.out.size))).mono ?_); rintro e9 w9 ⟨rfl, hb9⟩)
              exact ⟨rfl, _, rfl, hb9, rfl, fun h => h.elim⟩
            · intro xs W hW hn
              simp [flowNeeds, Region.binds] at hn
              simp only [flowAct, List.zipWith_cons_cons, List.zipWith_nil_left]
              try simp only [hn]
              go_wp2_with (fail)
              exact ⟨rfl, _, rfl, Below.refl _ _, rfl, fun h => h.elim⟩
          · intro xs W hW hall hfr
            clear hfr
            simp only [flowAll, and_true, Nat.zero_add, Nat.reduceAdd] at hall
            obtain ⟨-, -, -, -, -, -, -, -, -, -, -, -, -, -, -, -, -, -, -, -, -, -, -, -, -, -, -, -, -, e29⟩ := hall
            simp only [flowAct, List.zipWith_cons_cons, List.zipWith_nil_left, List.drop_succ_cons, List.drop_zero]
            simp only [e29]
            have HB7 := Lib.hid (HB6.out.trans (hW.mono HB6.out.size))
            go_wp2
            go_ret
            exact ⟨rfl, HB7.out⟩
end Go.Proofs.YtfkmfccdhmnllaaDoor
end

section
namespace Go.Proofs.YtfkmfccdhmnllaaDoor
open Go.RowKit Go Go.Sort Go.Deep
set_option linter.unusedVariables false
set_option maxRecDepth 20000

theorem grp_cells {H : Type} {enc : TypeId × Value → H} {W : World} {base : Nat} {sp held : Bool} {fuel : Nat} {cs : List Value} {x : DataW H × List MemPlace} (h : DataW.trod enc Tryd.prog W base (fun _ => sp) held fuel 65 cs = some x) :
    ∃ (s : List UInt8) (p : Int), cs = [.string (text s), .int .i64 p] ∧ s.length ≤ maxLen ∧ -9223372036854775808 ≤ p ∧ p ≤ 9223372036854775807 := by
  obtain ⟨xs, m, _, rfl, hl, hlen, hf⟩ := DataW.trod_struct Tryd.underlying65 h
  have h2 : Tryd.prog.cellsOf 65 = 2 := by kernel_rfl
  have h1 : Tryd.prog.cellsOf 3 = 1 := by kernel_rfl
  have h9 : Tryd.prog.cellsOf 9 = 1 := by kernel_rfl
  rw [h2] at hl
  match xs, hlen with
  | [y0, y1], _ =>
    have i0 := hf 0 _ rfl
    have i1 := hf 1 _ rfl
    match cs, hl with
    | [c0, c1], _ =>
      have j0 : DataW.trod enc Tryd.prog W base (fun _ => sp) held m 9 (([c0, c1].drop 0).take (Tryd.prog.cellsOf 9)) = some y0 := i0
      have j1 : DataW.trod enc Tryd.prog W base (fun _ => sp) held m 3 (([c0, c1].drop 1).take (Tryd.prog.cellsOf 3)) = some y1 := i1
      rw [h9] at j0
      rw [h1] at j1
      obtain ⟨s, hs, _, ws⟩ := DataW.trod_string Tryd.underlying9 j0
      obtain ⟨b, hb, _, wb⟩ := DataW.trod_int Tryd.underlying3 j1
      simp at hs hb
      subst hs
      subst hb
      exact ⟨s.data.toList, b, rfl, by simpa using ws, i64_of_wf wb⟩
/-- A list of groups that came in. -/
theorem open_grs {H : Type} {enc : TypeId × Value → H} {W : World} {a : Option Addr} {len cap : Nat} {d : DataW H} {p : List MemPlace} (h : DataW.Trod enc Tryd.prog W 0 (fun _ => true) true 22 (.slice a len cap) d p) :
    ∃ l, Grs W a len cap l ∧ ∀ g ∈ l, g.1.length ≤ 9223372036854775807 := by
  have hc : Tryd.prog.cellsOf 65 = 2 := by kernel_rfl
  obtain ⟨fuel, hf⟩ := h
  rcases open_slice Tryd.underlying22 hf with ⟨hcs, hx⟩ | ⟨x, l, c, m, n, D, Pl, hcs, _, hl, hm, hmm, hx, hcell⟩
  · simp [Value.cells] at hcs
    obtain ⟨rfl, rfl, rfl⟩ := hcs
    exact ⟨[], ⟨rfl, Nat.le_refl _, by omega, .inl rfl⟩, by simp⟩
  · simp [Value.cells] at hcs
    obtain ⟨rfl, rfl, rfl⟩ := hcs
    simp only [if_true] at hmm
    subst hmm
    rw [hc] at hcell
    have key : ∀ i, i < m → ∃ q : Grp, W.cell? (x.add (i * 2)) = some (.string (text q.1)) ∧ W.cell? ((x.add (i * 2)).add 1) = some (.int .i64 q.2) ∧ q.1.length ≤ 9223372036854775807 := by
      intro i hi
      obtain ⟨cs', h1, h2⟩ := hcell i hi
      obtain ⟨_, _, h3⟩ := World.cells?_some h1
      obtain ⟨u, v, rfl, hu, hv⟩ := grp_cells (sp := true) h2
      have k0 := h3 0 (by omega)
      have k1 := h3 1 (by omega)
      refine ⟨(u, v), ?_, ?_, by unfold maxLen at hu; exact hu⟩
      · simpa [Addr.add] using k0
      · simpa using k1
    obtain ⟨V, hV⟩ := choose_lt (α := Grp) (p := fun i q => W.cell? (x.add (i * 2)) = some (.string (text q.1)) ∧ W.cell? ((x.add (i * 2)).add 1) = some (.int .i64 q.2) ∧ q.1.length ≤ 9223372036854775807) key
    have hgd : ∀ i, i < len → ((List.range len).map V).getD i ([], 0) = V i := fun i hi => by simp [List.getD, hi]
    refine ⟨(List.range len).map V, ⟨by simp, hl, by unfold maxLen at hm; omega, ?_⟩, ?_⟩
    · by_cases hz : m = 0
      · exact .inl hz
      · right
        obtain ⟨b, off, spot⟩ := x
        have h0 := (hV 0 (by omega)).1
        have hspot : spot = none := by simpa [Addr.add] using World.cell?_spot h0
        subst hspot
        refine ⟨b, off, rfl, fun i hi => ?_⟩
        rw [hgd i hi]
        obtain ⟨q1, q2, _⟩ := hV i (by omega)
        have e1 : (⟨b, off, none⟩ : Addr).add (i * 2) = ⟨b, off + i * 2, none⟩ := by
          by_cases h0 : i * 2 = 0
          · rw [h0]; rfl
          · simp [Addr.add, h0]
        rw [e1] at q1 q2
        exact ⟨q1, q2⟩
    · intro g hg
      obtain ⟨i, hi, rfl⟩ := List.mem_map.1 hg
      exact (hV i (by have := List.mem_range.1 hi; omega)).2.2
end Go.Proofs.YtfkmfccdhmnllaaDoor
end

section
namespace Go.Proofs.YtfkmfccdhmnllaaDoor
open Go.RowKit Go Go.Sort Go.Deep
set_option linter.unusedVariables false
set_option maxRecDepth 20000

theorem choose_at {α : Type} {n : Nat} {p : Nat → α → Prop} (h : ∀ i, i < n → ∃ q, p i q) : ∃ V : Nat → Option α, ∀ i, i < n → ∃ q, V i = some q ∧ p i q := by
  induction n with
  | zero => exact ⟨fun _ => none, fun i hi => by omega⟩
  | succ n ih =>
    obtain ⟨V, hV⟩ := ih fun i hi => h i (by omega)
    obtain ⟨q, hq⟩ := h n (by omega)
    refine ⟨fun i => if i = n then some q else V i, fun i hi => ?_⟩
    by_cases e : i = n
    · subst e; exact ⟨q, by simp, hq⟩
    · simp only [if_neg e]; exact hV i (by omega)
theorem wr_trod {H : Type} {enc : TypeId × Value → H} {W : World} {base : Nat} {sp held : Bool} {fuel : Nat} {cs : List Value} {x : DataW H × List MemPlace} (h : DataW.trod enc Tryd.prog W base (fun _ => sp) held fuel 31 cs = some x) :
    ∃ (k : List UInt8) (i : Int) (g : Bool) (v : List UInt8), cs = [.string (text k), .int .i64 i, .bool g, .string (text v)] ∧ k.length ≤ maxLen ∧ IsI64 i ∧ v.length ≤ maxLen := by
  obtain ⟨xs, m, _, rfl, hl, hlen, hf⟩ := DataW.trod_struct Tryd.underlying31 h
  have h6 : Tryd.prog.cellsOf 31 = 4 := by kernel_rfl
  have h3 : Tryd.prog.cellsOf 3 = 1 := by kernel_rfl
  have h4 : Tryd.prog.cellsOf 4 = 1 := by kernel_rfl
  have h9 : Tryd.prog.cellsOf 9 = 1 := by kernel_rfl
  rw [h6] at hl
  match xs, hlen with
  | [y0, y1, y2, y3], _ =>
    have i0 := hf 0 _ rfl
    have i1 := hf 1 _ rfl
    have i2 := hf 2 _ rfl
    have i3 := hf 3 _ rfl
    match cs, hl with
    | [c0, c1, c2, c3], _ =>
      have j0 : DataW.trod enc Tryd.prog W base (fun _ => sp) held m 9 (([c0, c1, c2, c3].drop 0).take (Tryd.prog.cellsOf 9)) = some y0 := i0
      have j1 : DataW.trod enc Tryd.prog W base (fun _ => sp) held m 3 (([c0, c1, c2, c3].drop 1).take (Tryd.prog.cellsOf 3)) = some y1 := i1
      have j2 : DataW.trod enc Tryd.prog W base (fun _ => sp) held m 4 (([c0, c1, c2, c3].drop 2).take (Tryd.prog.cellsOf 4)) = some y2 := i2
      have j3 : DataW.trod enc Tryd.prog W base (fun _ => sp) held m 9 (([c0, c1, c2, c3].drop 3).take (Tryd.prog.cellsOf 9)) = some y3 := i3
      rw [h9] at j0 j3
      rw [h3] at j1
      rw [h4] at j2
      obtain ⟨k, e0, _, wk⟩ := DataW.trod_string Tryd.underlying9 j0
      obtain ⟨i, e1, _, wi⟩ := DataW.trod_int Tryd.underlying3 j1
      obtain ⟨g, e2, _⟩ := DataW.trod_bool Tryd.underlying4 j2
      obtain ⟨t, e3, _, wt⟩ := DataW.trod_string Tryd.underlying9 j3
      simp at e0 e1 e2 e3
      subst e0 e1 e2 e3
      exact ⟨k.data.toList, i, g, t.data.toList, rfl, by simpa using wk, i64_of_wf wi, by simpa using wt⟩
/-- A list of writes that came in. -/
theorem open_wrs {H : Type} {enc : TypeId × Value → H} {W : World} {a : Option Addr} {len cap : Nat} {d : DataW H} {p : List MemPlace} (h : DataW.Trod enc Tryd.prog W 0 (fun _ => true) true 27 (.slice a len cap) d p) :
    ∃ l, Wrs W a len cap l ∧ WShort l := by
  have hc : Tryd.prog.cellsOf 31 = 4 := by kernel_rfl
  obtain ⟨fuel, hf⟩ := h
  rcases open_slice Tryd.underlying27 hf with ⟨hcs, hx⟩ | ⟨x, l, c, m, n, D, Pl, hcs, _, hl, hm, hmm, hx, hcell⟩
  · simp [Value.cells] at hcs
    obtain ⟨rfl, rfl, rfl⟩ := hcs
    exact ⟨[], ⟨rfl, Nat.le_refl _, by omega, .inl rfl⟩, fun c hc => by cases hc⟩
  · simp [Value.cells] at hcs
    obtain ⟨rfl, rfl, rfl⟩ := hcs
    simp only [if_true] at hmm
    subst hmm
    rw [hc] at hcell
    have key : ∀ i, i < m → ∃ q : Wr, (∀ j u, q.arr[j]? = some u → W.cell? ((x.add (i * 4)).add j) = some u) ∧ q.k.length ≤ 9223372036854775807 ∧ q.v.length ≤ 9223372036854775807 := by
      intro i hi
      obtain ⟨cs', h1, h2⟩ := hcell i hi
      obtain ⟨_, h3l, h3⟩ := World.cells?_some h1
      obtain ⟨k', i', g', v', rfl, hk, _, hv⟩ := wr_trod (sp := true) h2
      refine ⟨⟨k', i', g', v'⟩, fun j u hj => ?_, by unfold maxLen at hk; exact hk, by unfold maxLen at hv; exact hv⟩
      have hjl : j < 4 := by
        have := (Array.getElem?_eq_some_iff.1 hj).1
        simpa [Wr.arr] using this
      have h4 := h3 j hjl
      rw [h4]
      rw [← hj]
      simp [Wr.arr]
    obtain ⟨V0, hV0⟩ := choose_at key
    obtain ⟨V, hV⟩ : ∃ V : Nat → Wr, ∀ i, i < m → ((∀ j u, (V i).arr[j]? = some u → W.cell? ((x.add (i * 4)).add j) = some u) ∧ (V i).k.length ≤ 9223372036854775807 ∧ (V i).v.length ≤ 9223372036854775807) := by
      refine ⟨fun i => (V0 i).getD Wr.zero, fun i hi => ?_⟩
      obtain ⟨q, hq, hp⟩ := hV0 i hi
      simp only [hq, Option.getD_some]
      exact hp
    have hgd : ∀ i, i < len → ((List.range len).map V).getD i Wr.zero = V i := fun i hi => by simp [List.getD, hi]
    refine ⟨(List.range len).map V, ⟨by simp, hl, by unfold maxLen at hm; omega, ?_⟩, ?_⟩
    · by_cases hz : m = 0
      · exact .inl hz
      · right
        obtain ⟨b, off, spot⟩ := x
        have h0 := (hV 0 (by omega)).1 0 _ rfl
        have hspot : spot = none := by simpa [Addr.add] using World.cell?_spot h0
        subst hspot
        refine ⟨b, off, rfl, fun i hi j u hj => ?_⟩
        rw [hgd i hi] at hj
        have hq := (hV i (by omega)).1
        have e1 : (⟨b, off, none⟩ : Addr).add (i * 4) = ⟨b, off + i * 4, none⟩ := by
          by_cases h0 : i * 4 = 0
          · rw [h0]; rfl
          · simp [Addr.add, h0]
        rw [e1] at hq
        have e2 : (⟨b, off + i * 4, none⟩ : Addr).add j = ⟨b, off + i * 4 + j, none⟩ := by
          by_cases h0 : j = 0
          · subst h0; rfl
          · simp [Addr.add, h0]
        have h5 := hq j u hj
        rw [e2] at h5
        exact h5
    · intro g hg
      obtain ⟨i, hi, rfl⟩ := List.mem_map.1 hg
      exact (hV i (by have := List.mem_range.1 hi; omega)).2
theorem change_trod {H : Type} {enc : TypeId × Value → H} {W : World} {fuel : Nat} {cs : List Value} {x : DataW H × List MemPlace} (h : DataW.trod enc Tryd.prog W 0 (fun _ => true) true fuel 29 cs = some x) :
    ∃ (site seq n s a b : Int) (ad : Option Addr) (len cap : Nat) (l : List Wr), cs = [.int .i64 site, .int .i64 seq, .int .i64 n, .int .i64 s, .int .i64 a, .int .i64 b, .slice ad len cap] ∧ Wrs W ad len cap l ∧ WShort l := by
  obtain ⟨xs, m, _, rfl, hl, hlen, hf⟩ := DataW.trod_struct Tryd.underlying29 h
  have h6 : Tryd.prog.cellsOf 29 = 7 := by kernel_rfl
  have hs : Tryd.prog.cellsOf 24 = 2 := by kernel_rfl
  have hv : Tryd.prog.cellsOf 26 = 2 := by kernel_rfl
  have h3 : Tryd.prog.cellsOf 3 = 1 := by kernel_rfl
  have hw : Tryd.prog.cellsOf 27 = 1 := by kernel_rfl
  rw [h6] at hl
  match xs, hlen with
  | [y0, y1, y2, y3, y4], _ =>
    have i0 := hf 0 _ rfl
    have i1 := hf 1 _ rfl
    have i2 := hf 2 _ rfl
    have i3 := hf 3 _ rfl
    have i4 := hf 4 _ rfl
    match cs, hl with
    | [c0, c1, c2, c3, c4, c5, c6], _ =>
      have j0 : DataW.trod enc Tryd.prog W 0 (fun _ => true) true m 3 (([c0, c1, c2, c3, c4, c5, c6].drop 0).take (Tryd.prog.cellsOf 3)) = some y0 := i0
      have j1 : DataW.trod enc Tryd.prog W 0 (fun _ => true) true m 3 (([c0, c1, c2, c3, c4, c5, c6].drop 1).take (Tryd.prog.cellsOf 3)) = some y1 := i1
      have j2 : DataW.trod enc Tryd.prog W 0 (fun _ => true) true m 24 (([c0, c1, c2, c3, c4, c5, c6].drop 2).take (Tryd.prog.cellsOf 24)) = some y2 := i2
      have j3 : DataW.trod enc Tryd.prog W 0 (fun _ => true) true m 26 (([c0, c1, c2, c3, c4, c5, c6].drop 4).take (Tryd.prog.cellsOf 26)) = some y3 := i3
      have j4 : DataW.trod enc Tryd.prog W 0 (fun _ => true) true m 27 (([c0, c1, c2, c3, c4, c5, c6].drop 6).take (Tryd.prog.cellsOf 27)) = some y4 := i4
      rw [h3] at j0 j1
      rw [hs] at j2
      rw [hv] at j3
      rw [hw] at j4
      obtain ⟨site, e0, _, _⟩ := DataW.trod_int Tryd.underlying3 j0
      obtain ⟨seq, e1, _, _⟩ := DataW.trod_int Tryd.underlying3 j1
      obtain ⟨n, s, e2, _, _⟩ := stamp_cells (sp := true) j2
      obtain ⟨a, b, e3, _, _⟩ := vec_cells j3
      have hvv : ∃ a len cap, c6 = .slice a len cap := by
        rcases open_slice Tryd.underlying27 j4 with ⟨hcs, hx⟩ | ⟨x, l, c, m, n, D, Pl, hcs, _⟩
        · simp at hcs; exact ⟨_, _, _, hcs⟩
        · simp at hcs; exact ⟨_, _, _, hcs⟩
      obtain ⟨ad, len, cap, rfl⟩ := hvv
      obtain ⟨l, h1, h2⟩ := open_wrs (d := y4.1) (p := y4.2) (W := W) (enc := enc) (a := ad) (len := len) (cap := cap) ⟨m, j4⟩
      simp at e0 e1 e2 e3
      obtain ⟨rfl, rfl⟩ := e2
      obtain ⟨rfl, rfl⟩ := e3
      subst e0 e1
      exact ⟨site, seq, n, s, a, b, ad, len, cap, l, rfl, h1, h2⟩
/-- A change that came in. -/
theorem open_change {H : Type} {enc : TypeId × Value → H} {W : World} {base : Nat} {v : Value} {x : DataW H} {p : List MemPlace} (hv : Value.okWide Tryd.prog W .any base 29 v)
    (h : DataW.Trod enc Tryd.prog W 0 (fun _ => true) true 29 v x p) : ∃ (site seq n s a b : Int) (ad : Option Addr) (len cap : Nat) (l : List Wr), v = .agg #[.int .i64 site, .int .i64 seq, .int .i64 n, .int .i64 s, .int .i64 a, .int .i64 b, .slice ad len cap] ∧ Wrs W ad len cap l ∧ WShort l := by
  simp only [Value.okWide, Tryd.underlying29] at hv
  obtain ⟨cs, rfl, hs, _⟩ := hv
  obtain ⟨m, hm⟩ := h
  obtain ⟨site, seq, n, s, a, b, ad, len, cap, l, hc, h1, h2⟩ := change_trod hm
  refine ⟨site, seq, n, s, a, b, ad, len, cap, l, ?_, h1, h2⟩
  congr 1
  apply Array.toList_inj.1
  exact hc
/-- A write that came in. -/
theorem open_write {H : Type} {enc : TypeId × Value → H} {W : World} {base : Nat} {v : Value} {x : DataW H} {p : List MemPlace} (hv : Value.okWide Tryd.prog W .any base 31 v)
    (h : DataW.Trod enc Tryd.prog W 0 (fun _ => true) true 31 v x p) : ∃ (k : List UInt8) (i : Int) (g : Bool) (t : List UInt8), v = .agg #[.string (text k), .int .i64 i, .bool g, .string (text t)] ∧ k.length ≤ 9223372036854775807 ∧ IsI64 i ∧ t.length ≤ 9223372036854775807 := by
  simp only [Value.okWide, Tryd.underlying31] at hv
  obtain ⟨cs, rfl, hs, _⟩ := hv
  obtain ⟨m, hm⟩ := h
  obtain ⟨k, i, g, t, hc, h1, h2, h3⟩ := wr_trod (sp := true) hm
  refine ⟨k, i, g, t, ?_, by unfold maxLen at h1; exact h1, h2, by unfold maxLen at h3; exact h3⟩
  congr 1
  apply Array.toList_inj.1
  exact hc
end Go.Proofs.YtfkmfccdhmnllaaDoor
end

section
namespace Go.Proofs.YtfkmfccdhmnllaaDoor
open Go.RowKit
set_option maxRecDepth 100000

theorem gTab : Tryd.prog.globalNamed "math/bits.deBruijn64tab" = some 1 := by kernel_rfl
theorem gTabType : (Tryd.prog.globals[1]?).map (·.type) = some 194 := by kernel_rfl
theorem cells48 : Tryd.prog.cellsOf 194 = 64 := by kernel_rfl
theorem cells5 : Tryd.prog.cellsOf 5 = 1 := by kernel_rfl

def tab64 : List Int := [0, 1, 56, 2, 57, 49, 28, 3, 61, 58, 42, 50, 38, 29, 17, 4, 62, 47, 59, 36, 45, 43, 51, 22, 53, 39, 33, 30, 24, 18, 12, 5, 63, 55, 48, 27, 60, 41, 37, 16, 46, 35, 44, 21, 52, 32, 23, 11, 54, 26, 40, 15, 34, 20, 31, 10, 25, 14, 19, 9, 13, 8, 7, 6]
def tab32 : List Int := [0, 1, 28, 2, 29, 14, 24, 3, 30, 22, 20, 15, 25, 17, 4, 8, 31, 27, 13, 23, 21, 19, 16, 7, 26, 12, 18, 6, 11, 5, 10, 9]

theorem tabW_of_laid {W : World} (h1 : laidMet Tryd.prog [("math/bits.deBruijn32tab", Rows.laid_math_bits_deBruijn32tab), ("math/bits.deBruijn64tab", Rows.laid_math_bits_deBruijn64tab)] W) : TabW W := by
  have h2 := h1.tail
  have T : Lib.TabIs Tryd.prog W "math/bits.deBruijn64tab" .u8 tab64 := Lib.tabIs_of_head (rest := []) gTab gTabType Tryd.underlying194 Tryd.underlying5 cells5 cells48 h2
  exact ⟨T.cell gTab 0 (by decide), T.cell gTab 1 (by decide), T.cell gTab 3 (by decide), T.cell gTab 7 (by decide)⟩

/-- A world for the witness: the settled one, the tables holding what their initialisers lay. -/
noncomputable def laidWorld (os : Os) : World :=
  { World.holding Tryd.prog os ⟨#[], #[], []⟩ with
    heap := ((World.holding Tryd.prog os ⟨#[], #[], []⟩).heap.modify 0 (fun o => match o with
      | .cells _ t frozen => .cells (tab32.map (Value.int .u8)).toArray t frozen
      | o => o)).modify 1 (fun o => match o with
      | .cells _ t frozen => .cells (tab64.map (Value.int .u8)).toArray t frozen
      | o => o) }
end Go.Proofs.YtfkmfccdhmnllaaDoor
end

