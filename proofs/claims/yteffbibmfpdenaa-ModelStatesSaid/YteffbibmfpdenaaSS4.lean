/-
  Merged: EF A1 G0 E9 G1.
-/
import Derived.Deep.QuietTactic
import Derived.StillTail
import Derived.Lib.QuietBelow
import Derived.Test.YteffbibmfpdenaaRows
import Derived.WalkKit
import Derived.Lib.Hide
import Derived.BigQuiet
import Derived.BigRegion
import Derived.Deep.Cut
import Derived.Deep.MidRow
import Derived.Great.BuildSlice
import Derived.Outline
import Derived.OwnWalk
import Derived.Laws.Rows
import Derived.ChangeKeysEq
import Derived.Laws.StructEq
import Derived.WalkSpells
import Derived.WalkLawsBesides
import Derived.Laws.CopyOwn
import Derived.WalkSmall
import Derived.Lib.LaidTab
import Derived.Deep.RegionWith
import Derived.Lib.MinMax
import Derived.WideShapes
import Derived.ChangeSame
import Derived.OpenShut
import Derived.Deep.Slices
import Derived.Deep.AppendSrc
import Derived.Lib.AppendZerosOnto
import Derived.Lib.SliceRun
import Derived.Lib.Walk
import Derived.Lib.OthersKept
import Derived.Laws.RangeAny
import Derived.Maps.OwnOps
import Derived.Maps.Views
import Derived.ChangeSlices
import Derived.ChangeArms
import Derived.Deep.DeepAppendWide
import Derived.OrdersIn
import Derived.TacticsIn
import Derived.RangeFuncNested
import Derived.RangeFuncBound
import Derived.RangeFuncCalls
import Derived.RangeFuncLeaves
import Derived.Maps.AppendAt
import Derived.Shelf.Abstract
import Derived.OwnWalkIn
import Derived.TacticsInMore
import Derived.LoopNIn
import Derived.LoopIn
import Derived.Test.YteffbibmfpdenaaSS3

section
namespace Go.Proofs.Yteffbibmfpdenaa
open Go.RowKit Go Go.Sort
set_option linter.unusedVariables false
set_option maxRecDepth 20000

def RwsPost (r : List (List UInt8 × List Cl) × Int) (n1 : Nat) (w : World) (e : Ending) (w' : World) : Prop := ∃ v L, e = .returned (.tuple #[v, .int .i64 r.2]) ∧ OwnRw w' w.heap.size n1 v L ∧ L.map Rw.pr = r.1 ∧ Below w.heap.size w w'
theorem rcof_x (p n s a b : Int) (g : Bool) (t : List UInt8) (hmax : t.length ≤ 9223372036854775807) : ∃ (n9 s9 a9 b9 : Int) (g9 : Bool) (t9 : List UInt8) (d9 e9 f9 : Int), (cofS p n s a b g t).1 = ⟨n9, s9, a9, b9, g9, t9, d9, e9⟩ ∧ ∀ w : World, Calls Try.prog 90 #[.int .i64 p, .agg #[.int .i64 n, .int .i64 s], .agg #[.int .i64 a, .int .i64 b], .bool g, .string (text t)] w (Tells (.tuple #[.agg #[.int .i64 n9, .int .i64 s9, .int .i64 a9, .int .i64 b9, .bool g9, .string (text t9), .int .i64 d9, .int .i64 e9], .int .i64 f9]) w) := by
  have h := fun w => rcof_c p n s a b g t hmax w
  obtain ⟨⟨⟨n9, s9, a9, b9, g9, t9, d9, e9⟩, f9⟩, hz⟩ : ∃ z, cofS p n s a b g t = z := ⟨_, rfl⟩
  rw [hz] at h
  exact ⟨n9, s9, a9, b9, g9, t9, d9, e9, f9, by rw [hz], h⟩
theorem put_only {W : World} {g m c k : Nat} (n9 s9 a9 b9 : Int) (g9 : Bool) (t9 : List UInt8) (d9 e9 : Int) : OnlyV (.slice (some ⟨g, 0, none⟩) m c) W (((((((((W.setCell ⟨g, k * 8, none⟩ (.int .i64 n9)).setCell ⟨g, k * 8 + 1, none⟩ (.int .i64 s9)).setCell ⟨g, k * 8 + 2, none⟩ (.int .i64 a9)).setCell ⟨g, k * 8 + 3, none⟩ (.int .i64 b9)).setCell ⟨g, k * 8 + 4, none⟩ (.bool g9)).setCell ⟨g, k * 8 + 5, none⟩ (.string (text t9))).setCell ⟨g, k * 8 + 6, none⟩ (.int .i64 d9)).setCell ⟨g, k * 8 + 7, none⟩ (.int .i64 e9))) :=
  ((((((((OnlyV.refl _ W).cell _ _).cell _ _).cell _ _).cell _ _).cell _ _).cell _ _).cell _ _).cell _ _
theorem Wrote.cell8 {W : World} {q : Nat} {n s a b d e : Int} {g : Bool} {t : List UInt8} (h : Cel W q n s a b g t d e) (n9 s9 a9 b9 : Int) (g9 : Bool) (t9 : List UInt8) (d9 e9 : Int) : Wrote q #[.int .i64 n9, .int .i64 s9, .int .i64 a9, .int .i64 b9, .bool g9, .string (text t9), .int .i64 d9, .int .i64 e9] 79 W ((((((((W.setCell ⟨q, 0, none⟩ (.int .i64 n9)).setCell ⟨q, 1, none⟩ (.int .i64 s9)).setCell ⟨q, 2, none⟩ (.int .i64 a9)).setCell ⟨q, 3, none⟩ (.int .i64 b9)).setCell ⟨q, 4, none⟩ (.bool g9)).setCell ⟨q, 5, none⟩ (.string (text t9))).setCell ⟨q, 6, none⟩ (.int .i64 d9)).setCell ⟨q, 7, none⟩ (.int .i64 e9)) := by
  have ho : OnlyV (.slice (some ⟨q, 0, none⟩) 1 1) W _ := ((((((((OnlyV.refl _ W).cell 0 (.int .i64 n9)).cell 1 (.int .i64 s9)).cell 2 (.int .i64 a9)).cell 3 (.int .i64 b9)).cell 4 (.bool g9)).cell 5 (.string (text t9))).cell 6 (.int .i64 d9)).cell 7 (.int .i64 e9)
  exact ⟨ho.os, ho.tape, ho.output, Nat.le_of_eq ho.size.symm, h.put n9 s9 a9 b9 g9 t9 d9 e9, fun k hk hne => ho.rest k (fun e => hne (by injection e))⟩
theorem RwsAt.len {W : World} {a : Option Addr} {m cap : Nat} {L : List Rw} (h : RwsAt W a m cap L) : m ≤ cap ∧ cap ≤ 9223372036854775807 := ⟨h.1.le, h.1.max⟩
theorem OwnRw.last {W : World} {B n1 p ct : Nat} {a : Option Addr} {L : List Rw} (h : OwnRw W B n1 (.slice a (p + 1) ct) L) (hl : L.length = p + 1) {k : List UInt8} {u : Value} {cs : List Cl} (hp : L.getD p Rw.zero = ⟨k, u, cs⟩) : ∃ br offr, a = some ⟨br, offr, none⟩ ∧ p + 1 ≤ ct ∧ ct ≤ 9223372036854775807 ∧
    (∀ W', Below W.heap.size W W' → W'.cell? ⟨br, offr + p * 2, none⟩ = some (.string (text k)) ∧ W'.cell? ⟨br, offr + p * 2 + 1, none⟩ = some u) ∧ OwnC W B u cs ∧ cs.length = n1 := by
  obtain ⟨a9, c9, ev, hr⟩ := h.at
  rw [hl] at ev hr
  injection ev with e1 e2 e3
  subst e1 e3
  obtain ⟨br, offr, a', n', c', e, eu, en, hc, hat⟩ := hr.place (k := p) (by omega)
  have ho := h.own p (by omega)
  rw [hp] at hat eu ho
  simp only at hat eu ho
  exact ⟨br, offr, e, hr.len.1, hr.len.2, fun W' hb => by rw [eu]; exact hat W' hb, ho.1, ho.2⟩
set_option maxRecDepth 100000 in
set_option maxHeartbeats 12800000 in
theorem rchrows_c {w : World} {x x2 : Option Addr} {n1 cap m cap2 : Nat} {gs : List Grp} {l : List Wr} (hg : Grs w x n1 cap gs) (hs : ∀ g ∈ gs, g.1.length ≤ 9223372036854775807) (hl : Wrs w x2 m cap2 l) (hx : WShort l) (site seq n s a b : Int) :
    Calls Try.prog 63 #[.slice x n1 cap, .agg #[.int .i64 site, .int .i64 seq, .int .i64 n, .int .i64 s, .int .i64 a, .int .i64 b, .slice x2 m cap2]] w (RwsPost (chrowsS gs site seq n s a b l) n1 w) := by
  have hgl := hg.len
  have hgle := hg.le
  have hgmx := hg.max
  have hll := hl.len
  have hle2 := hl.le
  have hmax2 := hl.max
  have HGD := Lib.hid (fun W (h : Below w.heap.size w W) => rchgood_c (hg.below h) hs (hl.below h) hx site seq n s a b)
  have HIV := Lib.hid (@ch_inv gs site seq n s a b l)
  have HP := Lib.hid (show chgoodS gs site seq n s a b l = 0 → chrowsS gs site seq n s a b l = (wrowN gs n s a b l m, 0) from fun h => by unfold chrowsS; rw [if_pos h, hll])
  have HQ := Lib.hid (show ¬ chgoodS gs site seq n s a b l = 0 → chrowsS gs site seq n s a b l = ([], chgoodS gs site seq n s a b l) from fun h => by unfold chrowsS; rw [if_neg h])
  have HL := Lib.hid hl
  have HG := Lib.hid hg
  obtain ⟨RV, hRV⟩ : ∃ z, chrowsS gs site seq n s a b l = z := ⟨_, rfl⟩
  rw [hRV] at HP HQ ⊢
  obtain ⟨R, hR⟩ : ∃ z, chgoodS gs site seq n s a b l = z := ⟨_, rfl⟩
  rw [hR] at HP HQ HIV
  simp only [hR] at HGD
  have hr := heap_alloc_new w (.cells #[.int .i64 site, .int .i64 seq, .int .i64 n, .int .i64 s, .int .i64 a, .int .i64 b, .slice x2 m cap2] 95)
  have hb := alloc_below w (.cells #[.int .i64 site, .int .i64 seq, .int .i64 n, .int .i64 s, .int .i64 a, .int .i64 b, .slice x2 m cap2] 95)
  clear hRV hR hg hs hl hx
  go_enter Try.func63, Try.ntmps63
  go_upto_region 1 with (fail)
  obtain ⟨B, hB⟩ : ∃ q, w.heap.size = q := ⟨_, rfl⟩
  have HBe := Lib.hid hB
  rw [hB] at hr ⊢
  clear hB
  generalize w.alloc (.cells #[.int .i64 site, .int .i64 seq, .int .i64 n, .int .i64 s, .int .i64 a, .int .i64 b, .slice x2 m cap2] 95) = W1 at *
  obtain ⟨c0, c1, c2, c3, c4, c5, c6⟩ := ch_cells hr
  have HR1 := Lib.hid hr
  have HB1 := Lib.hid hb
  clear hr hb
  by_cases h0 : R = 0
  · subst h0
    have HRR := Lib.hid (HP.out (by first | rfl | trivial))
    obtain ⟨hp0, hhd, hall⟩ := HIV.out (by first | rfl | trivial)
    have hn4 := pgood_len hp0
    rw [hll] at hhd hall
    obtain ⟨-,-,-,-,-,-,-, hd4, hd5⟩ := head_ok hhd
    have HALL := Lib.hid hall
    clear HP HQ HIV hp0 hall hhd
    go_upto_region 6 with (go_at_call 88; (with_reducible refine (HGD.out _ HB1.out).mono ?_); rintro e9 w2 ⟨rfl, hb2⟩)
    have HB2 := Lib.hid (HB1.out.trans (hb2.mono HB1.out.size))
    have HR2 := Lib.hid (heap_below HR1.out hb2)
    clear hb2 HR1 HB1 HGD c0 c1 c2 c3 c4 c5 c6
    go_wp2
    go_loopw [7, 8] (fun o i wr => ∃ (k : Nat) (v : Value) (L : List Rw), k ≤ m ∧ i = .int .i64 (k : Int) ∧ o = v ∧ OwnRw wr w.heap.size n1 v L ∧ L.map Rw.pr = wrowN gs n s a b l k ∧ Below w.heap.size w wr ∧ wr.heap[B]? = some (.cells #[.int .i64 site, .int .i64 seq, .int .i64 n, .int .i64 s, .int .i64 a, .int .i64 b, .slice x2 m cap2] 95 (0, 0))) (fun _ i _ => m - (intOf i).toNat)
    case atStart => exact ⟨0, .slice none 0 0, [], by omega, rfl, rfl, OwnRw.nil _ _ _, rfl, HB2.out, HR2.out⟩
    case round =>
      clear HB2 HR2
      obtain ⟨k, v, L, hk, rfl, rfl, ho, hpr, hb, hr⟩ := hrel
      obtain ⟨c0, c1, c2, c3, c4, c5, c6⟩ := ch_cells hr
      have hfew := wrow_few gs n s a b l k
      rw [← hpr, List.length_map] at hfew
      obtain ⟨al, cl, ev, -⟩ := ho.at
      obtain ⟨ll, hLL⟩ : ∃ z, L.length = z := ⟨_, rfl⟩
      rw [hLL] at hfew ev
      subst ev
      have HLL := Lib.hid hLL
      have HO := Lib.hid ho
      have HPR := Lib.hid hpr
      have HBr := Lib.hid hb
      have HRr := Lib.hid hr
      clear hLL ho hpr hb hr
      by_cases hlt : k < m
      · have hki : (k : Int) < (m : Int) := by omega
        have hkc : (k : Int) < (cap2 : Int) := by omega
        obtain ⟨bl, offl, rfl, hat⟩ := HL.out.place hlt
        obtain ⟨f1, -, f2, f3, f4, -⟩ := may_few (w_at (HALL.out k hlt))
        have HN := Lib.hid (show wrowN gs n s a b l (k + 1) = rowPut gs.length (wrowN gs n s a b l k) (l.getD k Wr.zero).k (l.getD k Wr.zero).i.toNat (cofS (gs.getD (l.getD k Wr.zero).i.toNat ([], 0)).2 n s a b (l.getD k Wr.zero).g (l.getD k Wr.zero).v).1 from rfl)
        obtain ⟨y, hy⟩ : ∃ y, l.getD k Wr.zero = y := ⟨_, rfl⟩
        rw [hy] at hat HN f1 f2 f3 f4
        obtain ⟨kx, ix, gx, vx⟩ := y
        simp only at hat HN f1 f2 f3 f4
        obtain ⟨ii, rfl⟩ : ∃ ii : Nat, ix = (ii : Int) := ⟨ix.toNat, by omega⟩
        rw [Int.toNat_natCast, ← HPR.out, hgl] at HN
        have hii : ii < n1 := by omega
        have hiic : (ii : Int) < (cap : Int) := by omega
        have hiin : (ii : Int) < (n1 : Int) := by omega
        obtain ⟨bg, og, rfl, hgat⟩ := HG.out.at hii
        obtain ⟨⟨gn, pk⟩, hgn⟩ : ∃ z, gs.getD ii ([], 0) = z := ⟨_, rfl⟩
        rw [hgn] at hgat HN
        simp only at hgat HN
        obtain ⟨n9, s9, a9, b9, g9, t9, d9, e9, f9, hof, hcof⟩ := rcof_x pk n s a b gx vx (by omega)
        rw [hof] at HN
        have HCO := Lib.hid hcof
        have HAT := Lib.hid (hat _ HBr.out)
        have HGT := Lib.hid hgat
        clear hat hgat hcof hof hgn hy f1 f2 f3 f4
        obtain ⟨l0, l1, l2, l3⟩ := HAT.out
        go_upto_region 9 with (fail)
        clear c0 c1 c2 c3 c4 c5 c6 l0 l1 l2 l3 HAT
        have hal := alloc_below wr (.cells #[.string (text kx), .int .i64 (ii : Int), .bool gx, .string (text vx)] 112)
        have HS9 := Lib.hid (heap_alloc_new wr (.cells #[.string (text kx), .int .i64 (ii : Int), .bool gx, .string (text vx)] 112))
        have HB9 := Lib.hid (HBr.out.trans (hal.mono HBr.out.size))
        have HR9 := Lib.hid (heap_below HRr.out hal)
        have HO9 := Lib.hid (HO.out.kept hal)
        obtain ⟨gw, hgw⟩ : ∃ z, wr.heap.size = z := ⟨_, rfl⟩
        have HGW := Lib.hid (show w.heap.size ≤ gw by rw [← hgw]; exact HBr.out.size)
        rw [hgw] at HS9 ⊢
        generalize wr.alloc (.cells #[.string (text kx), .int .i64 (ii : Int), .bool gx, .string (text vx)] 112) = W9 at *
        clear hal hgw HBr HRr HO
        have hn0 : 0 < n1 := by omega
        have hklt : ll ≤ 8 := by omega
        by_cases hl0 : ll = 0
        · have HZ0 := Lib.hid (show ((ll : Int) == 0) = true by simp [hl0])
          have HL0 := Lib.hid hl0
          clear hl0
          refine wp_region_flow [none,none,none,none,none,none,none,none,none,none,none,none,none,none,none,none,none,none,none,none,none,none,none,none,none,none,none,none,none,none, some 0, some 1, some 2, some 3, some 4, some 5, some 6, some 7, some 8, some 9, some 10, some 11, some 12, some 13, some 14, none,none,none,none,none,none,none,none,none,none,none,none,none,none,none,none,none,none,none,none,none,none,none,none,none,none,none,none,none,none,none,none,none,none,none,none,none] (fun i => [u30, u31, u32, u33, u34, u35, u36, u37, u38, u39, u40, u41, u42, u43, u44].getD i undef) [(fun v _ => v = .slice al ll cl), (fun v _ => v = .int .i64 (ll : Int)), (fun v _ => v = .bool true), (fun v _ => v = .bool true), (fun v _ => v = undef), (fun v _ => v = undef), (fun v _ => v = undef), (fun v _ => v = undef), (fun v _ => v = undef), (fun v _ => v = undef), (fun v _ => v = undef), (fun v _ => v = undef), (fun v _ => v = undef), (fun v _ => v = undef), (fun v _ => v = .bool true)] (by kernel_rfl) (by kernel_rfl) rfl rfl rfl ?_ ?_ ?_
          · intro g hg v X Y hX hY hv
            simp only [List.mem_cons, List.not_mem_nil, or_false] at hg
            rcases hg with rfl | rfl | rfl | rfl | rfl | rfl | rfl | rfl | rfl | rfl | rfl | rfl | rfl | rfl | rfl
            all_goals first
              | exact hv
              | exact hv.kept hY
          · simp only [flowOps, and_true]
            refine ⟨?_,?_,?_,?_,?_,?_,?_,?_,?_,?_,?_,?_,?_,?_,?_⟩
            · intro xs W hW hn
              simp only [flowAct, zwc, zwn]
              go_wp2_with (fail)
              exact ⟨rfl, _, rfl, Below.refl _ _, rfl⟩
            · intro xs W hW hn
              simp [flowNeeds, Region.binds] at hn
              simp only [flowAct, zwc, zwn]
              try simp only [hn]
              go_wp2_with (fail)
              exact ⟨rfl, _, rfl, Below.refl _ _, rfl⟩
            · intro xs W hW hn
              have hz := HZ0.out
              simp [flowNeeds, Region.binds] at hn
              simp only [flowAct, zwc, zwn]
              try simp only [hn]
              go_wp2_with (fail)
              exact ⟨rfl, _, rfl, Below.refl _ _, rfl⟩
            · intro xs W hW hn
              simp [flowNeeds, Region.binds] at hn
              simp only [flowAct, zwc, zwn]
              try simp only [hn]
              go_wp2_with (fail)
              exact ⟨rfl, _, rfl, Below.refl _ _, rfl⟩
            · intro xs W hW hn
              simp [flowNeeds, Region.binds] at hn
              simp only [flowAct, zwc, zwn]
              try simp only [hn]
              go_wp2_with (fail)
              exact ⟨rfl, _, rfl, Below.refl _ _, rfl⟩
            · intro xs W hW hn
              simp [flowNeeds, Region.binds] at hn
              simp only [flowAct, zwc, zwn]
              try simp only [hn]
              go_wp2_with (fail)
              exact ⟨rfl, _, rfl, Below.refl _ _, rfl⟩
            · intro xs W hW hn
              simp [flowNeeds, Region.binds] at hn
              simp only [flowAct, zwc, zwn]
              try simp only [hn]
              go_wp2_with (fail)
              exact ⟨rfl, _, rfl, Below.refl _ _, rfl⟩
            · intro xs W hW hn
              simp [flowNeeds, Region.binds] at hn
              simp only [flowAct, zwc, zwn]
              try simp only [hn]
              go_wp2_with (fail)
              exact ⟨rfl, _, rfl, Below.refl _ _, rfl⟩
            · intro xs W hW hn
              simp [flowNeeds, Region.binds] at hn
              simp only [flowAct, zwc, zwn]
              try simp only [hn]
              go_wp2_with (fail)
              exact ⟨rfl, _, rfl, Below.refl _ _, rfl⟩
            · intro xs W hW hn
              simp [flowNeeds, Region.binds] at hn
              simp only [flowAct, zwc, zwn]
              try simp only [hn]
              go_wp2_with (fail)
              exact ⟨rfl, _, rfl, Below.refl _ _, rfl⟩
            · intro xs W hW hn
              simp [flowNeeds, Region.binds] at hn
              simp only [flowAct, zwc, zwn]
              try simp only [hn]
              go_wp2_with (fail)
              exact ⟨rfl, _, rfl, Below.refl _ _, rfl⟩
            · intro xs W hW hn
              simp [flowNeeds, Region.binds] at hn
              simp only [flowAct, zwc, zwn]
              try simp only [hn]
              go_wp2_with (fail)
              exact ⟨rfl, _, rfl, Below.refl _ _, rfl⟩
            · intro xs W hW hn
              simp [flowNeeds, Region.binds] at hn
              simp only [flowAct, zwc, zwn]
              try simp only [hn]
              go_wp2_with (fail)
              exact ⟨rfl, _, rfl, Below.refl _ _, rfl⟩
            · intro xs W hW hn
              simp [flowNeeds, Region.binds] at hn
              simp only [flowAct, zwc, zwn]
              try simp only [hn]
              go_wp2_with (fail)
              exact ⟨rfl, _, rfl, Below.refl _ _, rfl⟩
            · intro xs W hW hn
              simp [flowNeeds, Region.binds] at hn
              simp only [flowAct, zwc, zwn]
              try simp only [hn]
              go_wp2_with (fail)
              exact ⟨rfl, _, rfl, Below.refl _ _, rfl⟩
          · intro xs W hW hall
            simp only [flowAll, and_true, Nat.zero_add, Nat.reduceAdd] at hall
            obtain ⟨-,-,-,-,-,-,-,-,-,-,-,-,-,-, eL⟩ := hall
            simp only [flowAct, zwc, zwn]
            simp only [eL]
            have hbk := HB9.out.trans (hW.mono HB9.out.size)
            have hrk := heap_below HR9.out hW
            have hsk := heap_below HS9.out hW
            have hok := HO9.out.kept hW
            clear eL
            obtain ⟨WK, hWK⟩ : ∃ X, W = X := ⟨_, rfl⟩
            rw [hWK] at hbk hrk hsk hok ⊢
            clear hWK hW HB9 HR9 HS9 HO9
            have HBT := Lib.hid hbk
            have HRT := Lib.hid hrk
            have HST := Lib.hid hsk
            have HOT := Lib.hid hok
            clear hbk hrk hsk hok
            obtain ⟨w0, w1, w2, w3⟩ := wr_cells HST.out
            have hzl : (zerosC n1).length = n1 := by simp [zerosC]
            have HZL := Lib.hid hzl
            go_upto_region 11 with (first
              | (go_at_call 89; (with_reducible refine (rempty_c hgle hgmx (by omega) (text kx)).mono ?_); rintro e9 w5 ⟨u, rfl, hou, hb5⟩; obtain ⟨gc, cc, rfl, hgcB, hccl, hgclt⟩ := own_some hou (by rw [HZL.out]; omega); rw [HZL.out] at hou hccl ⊢; have HB5 := Lib.hid (HBT.out.trans (hb5.mono HBT.out.size)); have HR5 := Lib.hid (heap_below HRT.out hb5); have HS5 := Lib.hid (heap_below HST.out hb5); have HO5 := Lib.hid (HOT.out.kept hb5); have HOU := Lib.hid hou; have HLTB := Lib.hid hb5.size; have HBT2 := Lib.hid (Nat.le_trans HBT.out.size hgcB))
              | (at_builtin; refine wpList_append_rw rfl _ _ rfl (u := .slice al ll cl) rfl HO5.out.row kx _ _ _ (zerosC n1) rfl (by rw [HLL.out]; omega) HB5.out.size ?_; intro v' w' ho' hg'; have hpush := HO5.out.push HZL.out HOU.out (by omega) HBT.out.size (fun j hj q hq => ((HOT.out.own j hj).1.lt q hq).2) _ ho' hg'; obtain ⟨at', ct', evt, -⟩ := hpush.at; rw [List.length_append, List.length_singleton, HLL.out] at evt; subst evt))
            have HB8 := Lib.hid ((HB5.out.alloc HB5.out.size (.cells #[.string (text kx), .slice (some ⟨gc, 0, none⟩) n1 cc] 30)).grown hg' (by simp; have := HB5.out.size; omega) (fun z e => (HO5.out.row.lt z e).1))
            have HR8 := Lib.hid (heap_grown ((Below.heap_alloc w5 (.cells #[.string (text kx), .slice (some ⟨gc, 0, none⟩) n1 cc] 30) B (Array.getElem?_eq_some_iff.1 HR5.out).1).trans HR5.out) hg' (own_ne HR5.out (by decide) HO5.out.row))
            have HS8 := Lib.hid (heap_grown ((Below.heap_alloc w5 (.cells #[.string (text kx), .slice (some ⟨gc, 0, none⟩) n1 cc] 30) gw (Array.getElem?_eq_some_iff.1 HS5.out).1).trans HS5.out) hg' (own_ne HS5.out (by decide) HO5.out.row))
            have HO8 := Lib.hid hpush
            have HLP := Lib.hid (show (L ++ [(⟨kx, .slice (some ⟨gc, 0, none⟩) n1 cc, zerosC n1⟩ : Rw)]).getD ll Rw.zero = ⟨kx, .slice (some ⟨gc, 0, none⟩) n1 cc, zerosC n1⟩ by rw [getD_push, HLL.out]; simp)
            have HPUT := Lib.hid (show ((L ++ [(⟨kx, .slice (some ⟨gc, 0, none⟩) n1 cc, zerosC n1⟩ : Rw)]).set ll (⟨kx, .slice (some ⟨gc, 0, none⟩) n1 cc, (zerosC n1).set ii ⟨n9, s9, a9, b9, g9, t9, d9, e9⟩⟩ : Rw)).map Rw.pr = wrowN gs n s a b l (k + 1) by rw [HN.out, ← HLL.out]; exact put_new rfl (.inl (HLL.out.trans HL0.out)))
            have HTL := Lib.hid (show (L ++ [(⟨kx, .slice (some ⟨gc, 0, none⟩) n1 cc, zerosC n1⟩ : Rw)]).length = ll + 1 by rw [List.length_append, HLL.out]; rfl)
            obtain ⟨br, offr, eat, hct1, hct2, hcl8, hoc8, hcs8⟩ := HO8.out.last HTL.out HLP.out
            subst eat
            have HLC8 := Lib.hid hcl8
            have HOC8 := Lib.hid hoc8
            have HCS8 := Lib.hid hcs8
            clear hcl8 hoc8 hcs8 hpush ho' hg' HOU HO5 HS5 HR5 HB5 HOT HST HRT HBT w0 w1 w2 w3
            obtain ⟨LT, hLT⟩ : ∃ z, (L ++ [(⟨kx, .slice (some ⟨gc, 0, none⟩) n1 cc, zerosC n1⟩ : Rw)]) = z := ⟨_, rfl⟩
            rw [hLT] at HO8 HLP HPUT HTL
            clear hLT
            obtain ⟨CS, hCS⟩ : ∃ z, zerosC n1 = z := ⟨_, rfl⟩
            rw [hCS] at HLP HPUT HOC8 HCS8
            clear hCS
            have HGC := Lib.hid (show w.heap.size ≤ gc by have := HBT2.out; omega)
            obtain ⟨M9, hM9⟩ : ∃ z, ll + 1 = z := ⟨_, rfl⟩
            rw [hM9] at HO8 hct1 ⊢
            have HM9 := Lib.hid (show (M9 : Int) - 1 = ((ll : Nat) : Int) by omega)
            have hM8 : ((ll : Nat) : Int) < (M9 : Int) := by omega
            have hM7 : ((ll : Nat) : Int) < (ct' : Int) := by omega
            have HMM := Lib.hid hM9
            clear hM9
            have HGS := Lib.hid (show GSt 79 (fun i v _ => v = [.slice (some ⟨bg, og, none⟩) n1 cap, .pointer (some ⟨gw, 1, none⟩), .int .i64 (ii : Int), .pointer (some ⟨bg, og + ii * 2, none⟩), .pointer (some ⟨bg, og + ii * 2 + 1, none⟩), .int .i64 pk, .pointer (some ⟨B, 2, none⟩), .agg #[.int .i64 n, .int .i64 s], .pointer (some ⟨B, 4, none⟩), .agg #[.int .i64 a, .int .i64 b], .pointer (some ⟨gw, 2, none⟩), .bool gx, .pointer (some ⟨gw, 3, none⟩), .string (text vx), .tuple #[.agg #[.int .i64 n9, .int .i64 s9, .int .i64 a9, .int .i64 b9, .bool g9, .string (text t9), .int .i64 d9, .int .i64 e9], .int .i64 f9], .tuple #[.agg #[.int .i64 n9, .int .i64 s9, .int .i64 a9, .int .i64 b9, .bool g9, .string (text t9), .int .i64 d9, .int .i64 e9], .int .i64 f9], .agg #[.int .i64 n9, .int .i64 s9, .int .i64 a9, .int .i64 b9, .bool g9, .string (text t9), .int .i64 d9, .int .i64 e9], .int .i64 f9].getD i undef) from ⟨fun i v X Y h _ => h, fun i v X Y q cs ds _ _ h => h⟩)
            refine wp_region_inv [none,none,none,none,none,none,none,none,none,none, some 18, some 20, none,none,none,none,none,none,none,none,none,none,none,none,none,none,none,none,none,none,none,none,none,none,none,none,none,none,none,none,none,none,none,none,none,none,none,none,none,none,none,none, some 15, some 0, some 1, some 2, some 3, some 4, some 5, some 6, some 7, some 8, some 9, some 10, some 11, some 12, some 13, some 14, some 16, some 17, none,none,none,none,none,none,none,none,none,none,none,none] (fun i => [u53, u54, u55, u56, u57, u58, u59, u60, u61, u62, u63, u64, u65, u66, u67, u52, u68, u69, u10, undef, u11].getD i undef) (LayG 18 1 79 #[.int .i64 0, .int .i64 0, .int .i64 0, .int .i64 0, .bool false, .string ⟨#[]⟩, .int .i64 0, .int .i64 0] (fun i v _ => v = [.slice (some ⟨bg, og, none⟩) n1 cap, .pointer (some ⟨gw, 1, none⟩), .int .i64 (ii : Int), .pointer (some ⟨bg, og + ii * 2, none⟩), .pointer (some ⟨bg, og + ii * 2 + 1, none⟩), .int .i64 pk, .pointer (some ⟨B, 2, none⟩), .agg #[.int .i64 n, .int .i64 s], .pointer (some ⟨B, 4, none⟩), .agg #[.int .i64 a, .int .i64 b], .pointer (some ⟨gw, 2, none⟩), .bool gx, .pointer (some ⟨gw, 3, none⟩), .string (text vx), .tuple #[.agg #[.int .i64 n9, .int .i64 s9, .int .i64 a9, .int .i64 b9, .bool g9, .string (text t9), .int .i64 d9, .int .i64 e9], .int .i64 f9], .tuple #[.agg #[.int .i64 n9, .int .i64 s9, .int .i64 a9, .int .i64 b9, .bool g9, .string (text t9), .int .i64 d9, .int .i64 e9], .int .i64 f9], .agg #[.int .i64 n9, .int .i64 s9, .int .i64 a9, .int .i64 b9, .bool g9, .string (text t9), .int .i64 d9, .int .i64 e9], .int .i64 f9].getD i undef) (fun _ => 16) w') (by kernel_rfl) (by kernel_rfl) rfl rfl (fun LL hL => LayG.start fun i hi => hL i (Nat.lt_of_lt_of_le hi (by decide))) ?_ ?_
            · simp only [invOps, and_true]
              refine ⟨?_,?_,?_,?_,?_,?_,?_,?_,?_,?_,?_,?_,?_,?_,?_,?_,?_,?_,?_,?_,?_⟩
              · intro LL xs W hI hL hn
                simp only [flowAct, zwc, zwn]
                go_wp2_with (fail)
                exact ⟨rfl, _, rfl, hI.set HGS.out 0 (by decide) (Below.refl _ _) rfl⟩
              · intro LL xs W hI hL hn
                simp only [flowAct, zwc, zwn]
                go_wp2_with (fail)
                exact ⟨rfl, _, rfl, hI.set HGS.out 1 (by decide) (Below.refl _ _) rfl⟩
              · intro LL xs W hI hL hn
                obtain ⟨w0, w1, w2, w3⟩ := wr_cells (heap_below HS8.out hI.below)
                simp [invNeeds, Region.binds] at hn
                have e1 : xs 1 = .pointer (some ⟨gw, 1, none⟩) := hI.2.1 1 (by decide) (by simp only [hn])
                simp only [flowAct, zwc, zwn]
                simp only [e1]
                go_wp2_with (fail)
                exact ⟨rfl, _, rfl, hI.set HGS.out 2 (by decide) (Below.refl _ _) rfl⟩
              · intro LL xs W hI hL hn
                simp [invNeeds, Region.binds] at hn
                have e0 : xs 0 = .slice (some ⟨bg, og, none⟩) n1 cap := hI.2.1 0 (by decide) (by simp only [hn])
                have e2 : xs 2 = .int .i64 (ii : Int) := hI.2.1 2 (by decide) (by simp only [hn])
                simp only [flowAct, zwc, zwn]
                simp only [e0, e2]
                go_wp2_with (fail)
                exact ⟨rfl, _, rfl, hI.set HGS.out 3 (by decide) (Below.refl _ _) rfl⟩
              · intro LL xs W hI hL hn
                simp [invNeeds, Region.binds] at hn
                have e3 : xs 3 = .pointer (some ⟨bg, og + ii * 2, none⟩) := hI.2.1 3 (by decide) (by simp only [hn])
                simp only [flowAct, zwc, zwn]
                simp only [e3]
                go_wp2_with (fail)
                exact ⟨rfl, _, rfl, hI.set HGS.out 4 (by decide) (Below.refl _ _) rfl⟩
              · intro LL xs W hI hL hn
                obtain ⟨g0, g1⟩ := HGT.out W (HB8.out.trans (hI.below.mono HB8.out.size))
                simp [invNeeds, Region.binds] at hn
                have e4 : xs 4 = .pointer (some ⟨bg, og + ii * 2 + 1, none⟩) := hI.2.1 4 (by decide) (by simp only [hn])
                simp only [flowAct, zwc, zwn]
                simp only [e4]
                go_wp2_with (fail)
                exact ⟨rfl, _, rfl, hI.set HGS.out 5 (by decide) (Below.refl _ _) rfl⟩
              · intro LL xs W hI hL hn
                simp only [flowAct, zwc, zwn]
                go_wp2_with (fail)
                exact ⟨rfl, _, rfl, hI.set HGS.out 6 (by decide) (Below.refl _ _) rfl⟩
              · intro LL xs W hI hL hn
                obtain ⟨c0, c1, c2, c3, c4, c5, c6⟩ := ch_cells (heap_below HR8.out hI.below)
                simp [invNeeds, Region.binds] at hn
                have e6 : xs 6 = .pointer (some ⟨B, 2, none⟩) := hI.2.1 6 (by decide) (by simp only [hn])
                simp only [flowAct, zwc, zwn]
                simp only [e6]
                go_wp2_with (fail)
                exact ⟨rfl, _, rfl, hI.set HGS.out 7 (by decide) (Below.refl _ _) rfl⟩
              · intro LL xs W hI hL hn
                simp only [flowAct, zwc, zwn]
                go_wp2_with (fail)
                exact ⟨rfl, _, rfl, hI.set HGS.out 8 (by decide) (Below.refl _ _) rfl⟩
              · intro LL xs W hI hL hn
                obtain ⟨c0, c1, c2, c3, c4, c5, c6⟩ := ch_cells (heap_below HR8.out hI.below)
                simp [invNeeds, Region.binds] at hn
                have e8 : xs 8 = .pointer (some ⟨B, 4, none⟩) := hI.2.1 8 (by decide) (by simp only [hn])
                simp only [flowAct, zwc, zwn]
                simp only [e8]
                go_wp2_with (fail)
                exact ⟨rfl, _, rfl, hI.set HGS.out 9 (by decide) (Below.refl _ _) rfl⟩
              · intro LL xs W hI hL hn
                simp only [flowAct, zwc, zwn]
                go_wp2_with (fail)
                exact ⟨rfl, _, rfl, hI.set HGS.out 10 (by decide) (Below.refl _ _) rfl⟩
              · intro LL xs W hI hL hn
                obtain ⟨w0, w1, w2, w3⟩ := wr_cells (heap_below HS8.out hI.below)
                simp [invNeeds, Region.binds] at hn
                have e10 : xs 10 = .pointer (some ⟨gw, 2, none⟩) := hI.2.1 10 (by decide) (by simp only [hn])
                simp only [flowAct, zwc, zwn]
                simp only [e10]
                go_wp2_with (fail)
                exact ⟨rfl, _, rfl, hI.set HGS.out 11 (by decide) (Below.refl _ _) rfl⟩
              · intro LL xs W hI hL hn
                simp only [flowAct, zwc, zwn]
                go_wp2_with (fail)
                exact ⟨rfl, _, rfl, hI.set HGS.out 12 (by decide) (Below.refl _ _) rfl⟩
              · intro LL xs W hI hL hn
                obtain ⟨w0, w1, w2, w3⟩ := wr_cells (heap_below HS8.out hI.below)
                simp [invNeeds, Region.binds] at hn
                have e12 : xs 12 = .pointer (some ⟨gw, 3, none⟩) := hI.2.1 12 (by decide) (by simp only [hn])
                simp only [flowAct, zwc, zwn]
                simp only [e12]
                go_wp2_with (fail)
                exact ⟨rfl, _, rfl, hI.set HGS.out 13 (by decide) (Below.refl _ _) rfl⟩
              · intro LL xs W hI hL hn
                simp [invNeeds, Region.binds] at hn
                have e5 : xs 5 = .int .i64 pk := hI.2.1 5 (by decide) (by simp only [hn])
                have e7 : xs 7 = .agg #[.int .i64 n, .int .i64 s] := hI.2.1 7 (by decide) (by simp only [hn])
                have e9 : xs 9 = .agg #[.int .i64 a, .int .i64 b] := hI.2.1 9 (by decide) (by simp only [hn])
                have e11 : xs 11 = .bool gx := hI.2.1 11 (by decide) (by simp only [hn])
                have e13 : xs 13 = .string (text vx) := hI.2.1 13 (by decide) (by simp only [hn])
                simp only [flowAct, zwc, zwn]
                simp only [e5, e7, e9, e11, e13]
                go_wp2_with (go_at_call 90; (with_reducible refine (HCO.out _).mono ?_); rintro e9 w9 ⟨rfl, hb9⟩)
                exact ⟨rfl, _, rfl, hI.set HGS.out 14 (by decide) hb9 rfl⟩
              · intro LL xs W hI hL hn
                simp [invNeeds, Region.binds] at hn
                have e14 : xs 14 = .tuple #[.agg #[.int .i64 n9, .int .i64 s9, .int .i64 a9, .int .i64 b9, .bool g9, .string (text t9), .int .i64 d9, .int .i64 e9], .int .i64 f9] := hI.2.1 14 (by decide) (by simp only [hn])
                simp only [flowAct, zwc, zwn]
                simp only [e14]
                go_wp2_with (fail)
                exact ⟨rfl, _, rfl, hI.set HGS.out 15 (by decide) (Below.refl _ _) rfl⟩
              · intro LL xs W hI hL hn
                simp [invNeeds, Region.binds] at hn
                have e15 : xs 15 = .tuple #[.agg #[.int .i64 n9, .int .i64 s9, .int .i64 a9, .int .i64 b9, .bool g9, .string (text t9), .int .i64 d9, .int .i64 e9], .int .i64 f9] := hI.2.1 15 (by decide) (by simp only [hn])
                simp only [flowAct, zwc, zwn]
                simp only [e15]
                go_wp2_with (fail)
                exact ⟨rfl, _, rfl, hI.set HGS.out 16 (by decide) (Below.refl _ _) rfl⟩
              · intro LL xs W hI hL hn
                simp [invNeeds, Region.binds] at hn
                have e15 : xs 15 = .tuple #[.agg #[.int .i64 n9, .int .i64 s9, .int .i64 a9, .int .i64 b9, .bool g9, .string (text t9), .int .i64 d9, .int .i64 e9], .int .i64 f9] := hI.2.1 15 (by decide) (by simp only [hn])
                simp only [flowAct, zwc, zwn]
                simp only [e15]
                go_wp2_with (fail)
                exact ⟨rfl, _, rfl, hI.set HGS.out 17 (by decide) (Below.refl _ _) rfl⟩
              · intro LL xs W hI hL hn
                simp only [flowAct, zwc, zwn]
                go_wp2_with (fail)
                exact ⟨rfl, _, rfl, hI.alloc HGS.out 0 (by decide) rfl hL⟩
              · intro LL xs W hI hL hn
                simp [invNeeds, Region.binds] at hn
                obtain ⟨hk, hv⟩ : LL 18 = true ∧ LL 16 = true := by simp only [hn, and_self]
                obtain ⟨g5, cs5, eg, lg, hgc, hz5⟩ := hI.2.2.1 0 (by decide) hk
                rw [if_neg (by rw [show LL (18 + 1 + 0) = false from hL]; decide)] at hz5
                subst hz5
                have e0 : xs 16 = .agg #[.int .i64 n9, .int .i64 s9, .int .i64 a9, .int .i64 b9, .bool g9, .string (text t9), .int .i64 d9, .int .i64 e9] := hI.2.1 16 (by decide) hv
                have e1 : xs 18 = .pointer (some ⟨g5, 0, none⟩) := eg
                have hc5 : Cel W g5 0 0 0 0 false [] 0 0 := hgc
                obtain ⟨p0, p1, p2, p3, p4, p5, p6, p7⟩ := hc5.cs
                have pfz := hc5.fz
                simp only [flowAct, zwc, zwn]
                simp only [e0, e1]
                go_wp2_with (fail)
                exact ⟨rfl, undef, rfl, hI.store HGS.out 0 (by decide) rfl rfl hk eg rfl (Wrote.cell8 hc5 n9 s9 a9 b9 g9 t9 d9 e9) undef⟩
              · intro LL xs W hI hL hn
                simp [invNeeds, Region.binds] at hn
                have e17 : xs 17 = .int .i64 f9 := hI.2.1 17 (by decide) (by simp only [hn])
                simp only [flowAct, zwc, zwn]
                simp only [e17]
                go_wp2_with (fail)
                exact ⟨rfl, _, rfl, hI.other 20 (by decide) _⟩
            · intro LL xs W hI hall
              obtain ⟨hW, -, hP, -,-⟩ := hI
              obtain ⟨gx9, cs7, e7, l7, h7, g7⟩ := hP 0 (by decide) (hall 18 (by decide))
              rw [if_pos (hall (18 + 1 + 0) (by decide))] at g7
              have g7 : Value.agg cs7 = .agg #[.int .i64 n9, .int .i64 s9, .int .i64 a9, .int .i64 b9, .bool g9, .string (text t9), .int .i64 d9, .int .i64 e9] := g7
              injection g7 with g7
              subst g7
              clear g7
              replace e7 : xs 18 = _ := e7
              clear hP hall
              simp only [flowAct, zwc, zwn]
              simp only [e7]
              have hbk := HB8.out.trans (hW.mono HB8.out.size)
              have hrk := heap_below HR8.out hW
              have hsk := heap_below HS8.out hW
              have hok := HO8.out.kept hW
              have hoc := HOC8.out.kept hW
              have hlc := fun W' (h : Below W.heap.size W W') => HLC8.out W' (hW.trans (h.mono hW.size))
              have hce : Cel W gx9 n9 s9 a9 b9 g9 t9 d9 e9 := h7
              clear e7 h7 hW HGS HGT
              obtain ⟨WK, hWK⟩ : ∃ X, W = X := ⟨_, rfl⟩
              rw [hWK] at hbk hrk hsk hok hoc hlc hce ⊢
              clear hWK HB8 HR8 HS8 HO8 HOC8 HLC8
              have HB7 := Lib.hid hbk
              have HR7 := Lib.hid hrk
              have HS7 := Lib.hid hsk
              have HO7 := Lib.hid hok
              have HOC7 := Lib.hid hoc
              have HLC7 := Lib.hid hlc
              have HCE := Lib.hid hce
              clear hbk hrk hsk hok hoc hlc hce
              go_upto_region 12 with (fail)
              refine wp_region_flow_tail 10 [none,none,none,none,none,none,none,none,none,none,none,none,none,none,none,none,none,none,none,none,none,none,none,none,none,none,none,none,none,none,none,none,none,none,none,none,none,none,none,none,none,none,none,none,none,none,none,none,none,none,none,none,none,none,none,none,none,none,none,none,none,none,none,none,none,none,none,none,none,none, some 0, some 1, some 2, some 3, some 4, some 5, some 6, some 7, some 8, some 9, none,none] (fun i => [u70, u71, u72, u73, u74, u75, u76, u77, u78, u79].getD i undef) [(fun v _ => v = .slice (some ⟨br, offr, none⟩) M9 ct'), (fun v _ => v = .slice (some ⟨br, offr, none⟩) M9 ct'), (fun v _ => v = .int .i64 (M9 : Int)), (fun v _ => v = .int .i64 ((ll : Nat) : Int)), (fun v _ => v = .pointer (some ⟨br, offr + ll * 2, none⟩)), (fun v _ => v = .pointer (some ⟨br, offr + ll * 2 + 1, none⟩)), (fun v _ => v = .slice (some ⟨gc, 0, none⟩) n1 cc), (fun v _ => v = .pointer (some ⟨gw, 1, none⟩)), (fun v _ => v = .int .i64 (ii : Int)), (fun v _ => v = .agg #[.int .i64 n9, .int .i64 s9, .int .i64 a9, .int .i64 b9, .bool g9, .string (text t9), .int .i64 d9, .int .i64 e9])] (fun _ => False) (by kernel_rfl) (by kernel_rfl) (by kernel_rfl) rfl rfl rfl ?_ ?_ ?_
              · intro g hg v X Y hX hY hv
                simp only [List.mem_cons, List.not_mem_nil, or_false] at hg
                rcases hg with rfl | rfl | rfl | rfl | rfl | rfl | rfl | rfl | rfl | rfl
                all_goals first
                  | exact hv
                  | exact hv.kept hY
              · simp only [flowOpsF, List.take_succ_cons, List.take_zero, and_true]
                refine ⟨?_,?_,?_,?_,?_,?_,?_,?_,?_,?_⟩
                · intro xs W hW hn
                  simp only [flowAct, zwc, zwn]
                  go_wp2_with (fail)
                  exact ⟨rfl, _, rfl, Below.refl _ _, rfl, fun h => h.elim⟩
                · intro xs W hW hn
                  simp only [flowAct, zwc, zwn]
                  go_wp2_with (fail)
                  exact ⟨rfl, _, rfl, Below.refl _ _, rfl, fun h => h.elim⟩
                · intro xs W hW hn
                  simp [flowNeeds, Region.binds] at hn
                  simp only [flowAct, zwc, zwn]
                  try simp only [hn]
                  go_wp2_with (fail)
                  exact ⟨rfl, _, rfl, Below.refl _ _, rfl, fun h => h.elim⟩
                · intro xs W hW hn
                  have hm9 := HM9.out
                  simp [flowNeeds, Region.binds] at hn
                  simp only [flowAct, zwc, zwn]
                  simp only [hn]
                  go_wp2_with (fail)
                  exact ⟨rfl, _, rfl, Below.refl _ _, by first | rfl | go_num, fun h => h.elim⟩
                · intro xs W hW hn
                  simp [flowNeeds, Region.binds] at hn
                  simp only [flowAct, zwc, zwn]
                  try simp only [hn]
                  go_wp2_with (fail)
                  exact ⟨rfl, _, rfl, Below.refl _ _, rfl, fun h => h.elim⟩
                · intro xs W hW hn
                  simp [flowNeeds, Region.binds] at hn
                  simp only [flowAct, zwc, zwn]
                  try simp only [hn]
                  go_wp2_with (fail)
                  exact ⟨rfl, _, rfl, Below.refl _ _, rfl, fun h => h.elim⟩
                · intro xs W hW hn
                  obtain ⟨r0, r1⟩ := HLC7.out W hW
                  simp [flowNeeds, Region.binds] at hn
                  simp only [flowAct, zwc, zwn]
                  try simp only [hn]
                  go_wp2_with (fail)
                  exact ⟨rfl, _, rfl, Below.refl _ _, rfl, fun h => h.elim⟩
                · intro xs W hW hn
                  simp only [flowAct, zwc, zwn]
                  go_wp2_with (fail)
                  exact ⟨rfl, _, rfl, Below.refl _ _, rfl, fun h => h.elim⟩
                · intro xs W hW hn
                  obtain ⟨w0, w1, w2, w3⟩ := wr_cells (heap_below HS7.out hW)
                  simp [flowNeeds, Region.binds] at hn
                  simp only [flowAct, zwc, zwn]
                  try simp only [hn]
                  go_wp2_with (fail)
                  exact ⟨rfl, _, rfl, Below.refl _ _, rfl, fun h => h.elim⟩
                · intro xs W hW hn
                  obtain ⟨p0, p1, p2, p3, p4, p5, p6, p7⟩ := (HCE.out.kept hW).cs
                  simp only [flowAct, zwc, zwn]
                  go_wp2_with (fail)
                  exact ⟨rfl, _, rfl, Below.refl _ _, rfl, fun h => h.elim⟩
              · intro xs W hW hall hfr
                clear hfr
                simp only [flowAll, and_true, Nat.zero_add, Nat.reduceAdd] at hall
                obtain ⟨-,-,-,-,-,-, y6, -, y8, y9⟩ := hall
                simp only [flowAct, zwc, zwn, List.drop_succ_cons, List.drop_zero]
                simp only [y6, y8, y9]
                have HBx := Lib.hid (HB7.out.trans (hW.mono HB7.out.size))
                have HRx := Lib.hid (heap_below HR7.out hW)
                have HOx := Lib.hid (HO7.out.kept hW)
                have HOCx := Lib.hid (HOC7.out.kept hW)
                have hlk : ii < CS.length := by have := HCS8.out; omega
                have HLK := Lib.hid hlk
                have pfz := own_fz HOCx.out
                obtain ⟨p0, p1, p2, p3, p4, p5, p6, p7⟩ := own_at HOCx.out hlk _ (Below.refl _ _)
                clear y6 y8 y9 hW hlk
                go_wp2
                go_roundw
                case rel => exact ⟨k + 1, _, LT.set ll ⟨kx, .slice (some ⟨gc, 0, none⟩) n1 cc, CS.set ii ⟨n9, s9, a9, b9, g9, t9, d9, e9⟩⟩, by omega, by go_num, rfl, (by have hst := OwnRw.store HOx.out (j := ll) (by rw [HTL.out]; omega) (by rw [HLP.out]; exact put_only (k := ii) n9 s9 a9 b9 g9 t9 d9 e9) (by rw [HLP.out]; exact own_put HOCx.out HLK.out n9 s9 a9 b9 g9 t9 d9 e9) (by rw [List.length_set]; exact HCS8.out) hn0; rw [HLP.out] at hst; exact hst), HPUT.out, cells_put_below (k := ii) HBx.out HGC.out n9 s9 a9 b9 g9 t9 d9 e9, ((put_only (g := gc) (m := n1) (c := cc) (k := ii) n9 s9 a9 b9 g9 t9 d9 e9).rest B (own_ne HRx.out (by decide) HOCx.out)).trans HRx.out⟩
                case measure => simp [intOf]; omega
            
        · obtain ⟨p, rfl⟩ : ∃ p, ll = p + 1 := ⟨ll - 1, by omega⟩
          clear hl0
          have HZ0 := Lib.hid (show (((p + 1 : Nat) : Int) == 0) = false by simp; omega)
          obtain ⟨⟨kl, ul, csl⟩, hlp⟩ : ∃ z, L.getD p Rw.zero = z := ⟨_, rfl⟩
          obtain ⟨br, offr, eal, hct1, hct2, hcl, hoc, hcs⟩ := HO9.out.last HLL.out hlp
          subst eal
          obtain ⟨gc, cc, rfl, hgcB, hccl, hgclt⟩ := own_some hoc (by omega)
          rw [hcs] at hccl hcl hoc hlp
          have HLP := Lib.hid hlp
          have HLC := Lib.hid hcl
          have HOC := Lib.hid hoc
          have HCS := Lib.hid hcs
          have hp0 : (p : Int) < ((p + 1 : Nat) : Int) := by omega
          have hp1 : (p : Int) < (cl : Int) := by omega
          have hp2 : (0 : Int) < ((p + 1 : Nat) : Int) := by omega
          have hte := text_eqb kl kx
          obtain ⟨Q, hQ⟩ : ∃ z, (kl == kx) = z := ⟨_, rfl⟩
          rw [hQ] at hte
          have HTE := Lib.hid hte
          have HQ9 := Lib.hid hQ
          clear hlp hcl hoc hcs hte hQ
          refine wp_region_flow [none,none,none,none,none,none,none,none,none,none,none,none,none,none,none,none,none,none,none,none,none,none,none,none,none,none,none,none,none,none, some 0, some 1, some 2, some 3, some 4, some 5, some 6, some 7, some 8, some 9, some 10, some 11, some 12, some 13, some 14, none,none,none,none,none,none,none,none,none,none,none,none,none,none,none,none,none,none,none,none,none,none,none,none,none,none,none,none,none,none,none,none,none,none,none,none,none] (fun i => [u30, u31, u32, u33, u34, u35, u36, u37, u38, u39, u40, u41, u42, u43, u44].getD i undef) [(fun v _ => v = .slice (some ⟨br, offr, none⟩) (p + 1) cl), (fun v _ => v = .int .i64 ((p + 1 : Nat) : Int)), (fun v _ => v = .bool false), (fun v _ => v = .bool false), (fun v _ => v = .slice (some ⟨br, offr, none⟩) (p + 1) cl), (fun v _ => v = .slice (some ⟨br, offr, none⟩) (p + 1) cl), (fun v _ => v = .int .i64 ((p + 1 : Nat) : Int)), (fun v _ => v = .int .i64 (p : Int)), (fun v _ => v = .pointer (some ⟨br, offr + p * 2, none⟩)), (fun v _ => v = .pointer (some ⟨br, offr + p * 2, none⟩)), (fun v _ => v = .string (text kl)), (fun v _ => v = .pointer (some ⟨gw, 0, none⟩)), (fun v _ => v = .string (text kx)), (fun v _ => v = .bool (!Q)), (fun v _ => v = .bool (!Q))] (by kernel_rfl) (by kernel_rfl) rfl rfl rfl ?_ ?_ ?_
          · intro g hg v X Y hX hY hv
            simp only [List.mem_cons, List.not_mem_nil, or_false] at hg
            rcases hg with rfl | rfl | rfl | rfl | rfl | rfl | rfl | rfl | rfl | rfl | rfl | rfl | rfl | rfl | rfl
            all_goals first
              | exact hv
              | exact hv.kept hY
          · simp only [flowOps, and_true]
            refine ⟨?_,?_,?_,?_,?_,?_,?_,?_,?_,?_,?_,?_,?_,?_,?_⟩
            · intro xs W hW hn
              simp only [flowAct, zwc, zwn]
              go_wp2_with (fail)
              exact ⟨rfl, _, rfl, Below.refl _ _, rfl⟩
            · intro xs W hW hn
              simp [flowNeeds, Region.binds] at hn
              simp only [flowAct, zwc, zwn]
              try simp only [hn]
              go_wp2_with (fail)
              exact ⟨rfl, _, rfl, Below.refl _ _, rfl⟩
            · intro xs W hW hn
              have hz := HZ0.out
              simp [flowNeeds, Region.binds] at hn
              simp only [flowAct, zwc, zwn]
              simp only [hn]
              go_wp2_with (fail)
              exact ⟨rfl, _, rfl, Below.refl _ _, by go_num⟩
            · intro xs W hW hn
              simp [flowNeeds, Region.binds] at hn
              simp only [flowAct, zwc, zwn]
              try simp only [hn]
              go_wp2_with (fail)
              exact ⟨rfl, _, rfl, Below.refl _ _, rfl⟩
            · intro xs W hW hn
              simp [flowNeeds, Region.binds] at hn
              simp only [flowAct, zwc, zwn]
              try simp only [hn]
              go_wp2_with (fail)
              exact ⟨rfl, _, rfl, Below.refl _ _, rfl⟩
            · intro xs W hW hn
              simp [flowNeeds, Region.binds] at hn
              simp only [flowAct, zwc, zwn]
              try simp only [hn]
              go_wp2_with (fail)
              exact ⟨rfl, _, rfl, Below.refl _ _, rfl⟩
            · intro xs W hW hn
              simp [flowNeeds, Region.binds] at hn
              simp only [flowAct, zwc, zwn]
              try simp only [hn]
              go_wp2_with (fail)
              exact ⟨rfl, _, rfl, Below.refl _ _, rfl⟩
            · intro xs W hW hn
              simp [flowNeeds, Region.binds] at hn
              simp only [flowAct, zwc, zwn]
              simp only [hn]
              go_wp2_with (fail)
              exact ⟨rfl, _, rfl, Below.refl _ _, by go_num⟩
            · intro xs W hW hn
              simp [flowNeeds, Region.binds] at hn
              simp only [flowAct, zwc, zwn]
              try simp only [hn]
              go_wp2_with (fail)
              exact ⟨rfl, _, rfl, Below.refl _ _, rfl⟩
            · intro xs W hW hn
              simp [flowNeeds, Region.binds] at hn
              simp only [flowAct, zwc, zwn]
              try simp only [hn]
              go_wp2_with (fail)
              exact ⟨rfl, _, rfl, Below.refl _ _, rfl⟩
            · intro xs W hW hn
              obtain ⟨r0, r1⟩ := HLC.out W hW
              simp [flowNeeds, Region.binds] at hn
              simp only [flowAct, zwc, zwn]
              try simp only [hn]
              go_wp2_with (fail)
              exact ⟨rfl, _, rfl, Below.refl _ _, rfl⟩
            · intro xs W hW hn
              simp [flowNeeds, Region.binds] at hn
              simp only [flowAct, zwc, zwn]
              try simp only [hn]
              go_wp2_with (fail)
              exact ⟨rfl, _, rfl, Below.refl _ _, rfl⟩
            · intro xs W hW hn
              obtain ⟨w0, w1, w2, w3⟩ := wr_cells (heap_below HS9.out hW)
              simp [flowNeeds, Region.binds] at hn
              simp only [flowAct, zwc, zwn]
              try simp only [hn]
              go_wp2_with (fail)
              exact ⟨rfl, _, rfl, Below.refl _ _, rfl⟩
            · intro xs W hW hn
              have hte := HTE.out
              simp [flowNeeds, Region.binds] at hn
              simp only [flowAct, zwc, zwn]
              try simp only [hn]
              go_wp2_with (fail)
              exact ⟨rfl, _, rfl, Below.refl _ _, rfl⟩
            · intro xs W hW hn
              simp [flowNeeds, Region.binds] at hn
              simp only [flowAct, zwc, zwn]
              try simp only [hn]
              go_wp2_with (fail)
              exact ⟨rfl, _, rfl, Below.refl _ _, rfl⟩
          · intro xs W hW hall
            simp only [flowAll, and_true, Nat.zero_add, Nat.reduceAdd] at hall
            obtain ⟨-,-,-,-,-,-,-,-,-,-,-,-,-,-, eL⟩ := hall
            simp only [flowAct, zwc, zwn]
            simp only [eL]
            have hbk := HB9.out.trans (hW.mono HB9.out.size)
            have hrk := heap_below HR9.out hW
            have hsk := heap_below HS9.out hW
            have hok := HO9.out.kept hW
            clear eL
            have hct0 := fun W' (h : Below W.heap.size W W') => HLC.out W' (hW.trans (h.mono hW.size))
            have hoc0 := HOC.out.kept hW
            obtain ⟨WK, hWK⟩ : ∃ X, W = X := ⟨_, rfl⟩
            rw [hWK] at hbk hrk hsk hok hct0 hoc0 ⊢
            clear hWK hW HB9 HR9 HS9 HO9
            have HLCT := Lib.hid hct0
            have HOCT := Lib.hid hoc0
            clear hct0 hoc0
            have HBT := Lib.hid hbk
            have HRT := Lib.hid hrk
            have HST := Lib.hid hsk
            have HOT := Lib.hid hok
            clear hbk hrk hsk hok
            cases Q with
            | false =>
              obtain ⟨w0, w1, w2, w3⟩ := wr_cells HST.out
              have hzl : (zerosC n1).length = n1 := by simp [zerosC]
              have HZL := Lib.hid hzl
              go_upto_region 11 with (first
                | (go_at_call 89; (with_reducible refine (rempty_c hgle hgmx (by omega) (text kx)).mono ?_); rintro e9 w5 ⟨u, rfl, hou, hb5⟩; obtain ⟨gc, cc, rfl, hgcB, hccl, hgclt⟩ := own_some hou (by rw [HZL.out]; omega); rw [HZL.out] at hou hccl ⊢; have HB5 := Lib.hid (HBT.out.trans (hb5.mono HBT.out.size)); have HR5 := Lib.hid (heap_below HRT.out hb5); have HS5 := Lib.hid (heap_below HST.out hb5); have HO5 := Lib.hid (HOT.out.kept hb5); have HOU := Lib.hid hou; have HLTB := Lib.hid hb5.size; have HBT2 := Lib.hid (Nat.le_trans HBT.out.size hgcB))
                | (at_builtin; refine wpList_append_rw rfl _ _ rfl (u := .slice (some ⟨br, offr, none⟩) (p + 1) cl) rfl HO5.out.row kx _ _ _ (zerosC n1) rfl (by rw [HLL.out]; omega) HB5.out.size ?_; intro v' w' ho' hg'; have hpush := HO5.out.push HZL.out HOU.out (by omega) HBT.out.size (fun j hj q hq => ((HOT.out.own j hj).1.lt q hq).2) _ ho' hg'; obtain ⟨at', ct', evt, -⟩ := hpush.at; rw [List.length_append, List.length_singleton, HLL.out] at evt; subst evt))
              have HB8 := Lib.hid ((HB5.out.alloc HB5.out.size (.cells #[.string (text kx), .slice (some ⟨gc, 0, none⟩) n1 cc] 30)).grown hg' (by simp; have := HB5.out.size; omega) (fun z e => (HO5.out.row.lt z e).1))
              have HR8 := Lib.hid (heap_grown ((Below.heap_alloc w5 (.cells #[.string (text kx), .slice (some ⟨gc, 0, none⟩) n1 cc] 30) B (Array.getElem?_eq_some_iff.1 HR5.out).1).trans HR5.out) hg' (own_ne HR5.out (by decide) HO5.out.row))
              have HS8 := Lib.hid (heap_grown ((Below.heap_alloc w5 (.cells #[.string (text kx), .slice (some ⟨gc, 0, none⟩) n1 cc] 30) gw (Array.getElem?_eq_some_iff.1 HS5.out).1).trans HS5.out) hg' (own_ne HS5.out (by decide) HO5.out.row))
              have HO8 := Lib.hid hpush
              have HLPn := Lib.hid (show (L ++ [(⟨kx, .slice (some ⟨gc, 0, none⟩) n1 cc, zerosC n1⟩ : Rw)]).getD (p + 1) Rw.zero = ⟨kx, .slice (some ⟨gc, 0, none⟩) n1 cc, zerosC n1⟩ by rw [getD_push, HLL.out]; simp)
              have HPUT := Lib.hid (show ((L ++ [(⟨kx, .slice (some ⟨gc, 0, none⟩) n1 cc, zerosC n1⟩ : Rw)]).set (p + 1) (⟨kx, .slice (some ⟨gc, 0, none⟩) n1 cc, (zerosC n1).set ii ⟨n9, s9, a9, b9, g9, t9, d9, e9⟩⟩ : Rw)).map Rw.pr = wrowN gs n s a b l (k + 1) by rw [HN.out, ← HLL.out]; exact put_new rfl (.inr (by rw [HLL.out, Nat.add_sub_cancel, HLP.out]; have := HQ9.out; simpa using this)))
              have HTL := Lib.hid (show (L ++ [(⟨kx, .slice (some ⟨gc, 0, none⟩) n1 cc, zerosC n1⟩ : Rw)]).length = (p + 1) + 1 by rw [List.length_append, HLL.out]; rfl)
              obtain ⟨br9, offr9, eat, hct1, hct2, hcl8, hoc8, hcs8⟩ := HO8.out.last HTL.out HLPn.out
              subst eat
              have HLC8 := Lib.hid hcl8
              have HOC8 := Lib.hid hoc8
              have HCS8 := Lib.hid hcs8
              clear hcl8 hoc8 hcs8 hpush ho' hg' HOU HO5 HS5 HR5 HB5 HOT HST HRT HBT w0 w1 w2 w3
              obtain ⟨LT, hLT⟩ : ∃ z, (L ++ [(⟨kx, .slice (some ⟨gc, 0, none⟩) n1 cc, zerosC n1⟩ : Rw)]) = z := ⟨_, rfl⟩
              rw [hLT] at HO8 HLPn HPUT HTL
              clear hLT
              obtain ⟨CS, hCS⟩ : ∃ z, zerosC n1 = z := ⟨_, rfl⟩
              rw [hCS] at HLPn HPUT HOC8 HCS8
              clear hCS
              have HGC := Lib.hid (show w.heap.size ≤ gc by have := HBT2.out; omega)
              obtain ⟨M9, hM9⟩ : ∃ z, (p + 1) + 1 = z := ⟨_, rfl⟩
              rw [hM9] at HO8 hct1 ⊢
              have HM9 := Lib.hid (show (M9 : Int) - 1 = (((p + 1) : Nat) : Int) by omega)
              have hM8 : (((p + 1) : Nat) : Int) < (M9 : Int) := by omega
              have hM7 : (((p + 1) : Nat) : Int) < (ct' : Int) := by omega
              have HMM := Lib.hid hM9
              clear hM9
              have HGS := Lib.hid (show GSt 79 (fun i v _ => v = [.slice (some ⟨bg, og, none⟩) n1 cap, .pointer (some ⟨gw, 1, none⟩), .int .i64 (ii : Int), .pointer (some ⟨bg, og + ii * 2, none⟩), .pointer (some ⟨bg, og + ii * 2 + 1, none⟩), .int .i64 pk, .pointer (some ⟨B, 2, none⟩), .agg #[.int .i64 n, .int .i64 s], .pointer (some ⟨B, 4, none⟩), .agg #[.int .i64 a, .int .i64 b], .pointer (some ⟨gw, 2, none⟩), .bool gx, .pointer (some ⟨gw, 3, none⟩), .string (text vx), .tuple #[.agg #[.int .i64 n9, .int .i64 s9, .int .i64 a9, .int .i64 b9, .bool g9, .string (text t9), .int .i64 d9, .int .i64 e9], .int .i64 f9], .tuple #[.agg #[.int .i64 n9, .int .i64 s9, .int .i64 a9, .int .i64 b9, .bool g9, .string (text t9), .int .i64 d9, .int .i64 e9], .int .i64 f9], .agg #[.int .i64 n9, .int .i64 s9, .int .i64 a9, .int .i64 b9, .bool g9, .string (text t9), .int .i64 d9, .int .i64 e9], .int .i64 f9].getD i undef) from ⟨fun i v X Y h _ => h, fun i v X Y q cs ds _ _ h => h⟩)
              refine wp_region_inv [none,none,none,none,none,none,none,none,none,none, some 18, some 20, none,none,none,none,none,none,none,none,none,none,none,none,none,none,none,none,none,none,none,none,none,none,none,none,none,none,none,none,none,none,none,none,none,none,none,none,none,none,none,none, some 15, some 0, some 1, some 2, some 3, some 4, some 5, some 6, some 7, some 8, some 9, some 10, some 11, some 12, some 13, some 14, some 16, some 17, none,none,none,none,none,none,none,none,none,none,none,none] (fun i => [u53, u54, u55, u56, u57, u58, u59, u60, u61, u62, u63, u64, u65, u66, u67, u52, u68, u69, u10, undef, u11].getD i undef) (LayG 18 1 79 #[.int .i64 0, .int .i64 0, .int .i64 0, .int .i64 0, .bool false, .string ⟨#[]⟩, .int .i64 0, .int .i64 0] (fun i v _ => v = [.slice (some ⟨bg, og, none⟩) n1 cap, .pointer (some ⟨gw, 1, none⟩), .int .i64 (ii : Int), .pointer (some ⟨bg, og + ii * 2, none⟩), .pointer (some ⟨bg, og + ii * 2 + 1, none⟩), .int .i64 pk, .pointer (some ⟨B, 2, none⟩), .agg #[.int .i64 n, .int .i64 s], .pointer (some ⟨B, 4, none⟩), .agg #[.int .i64 a, .int .i64 b], .pointer (some ⟨gw, 2, none⟩), .bool gx, .pointer (some ⟨gw, 3, none⟩), .string (text vx), .tuple #[.agg #[.int .i64 n9, .int .i64 s9, .int .i64 a9, .int .i64 b9, .bool g9, .string (text t9), .int .i64 d9, .int .i64 e9], .int .i64 f9], .tuple #[.agg #[.int .i64 n9, .int .i64 s9, .int .i64 a9, .int .i64 b9, .bool g9, .string (text t9), .int .i64 d9, .int .i64 e9], .int .i64 f9], .agg #[.int .i64 n9, .int .i64 s9, .int .i64 a9, .int .i64 b9, .bool g9, .string (text t9), .int .i64 d9, .int .i64 e9], .int .i64 f9].getD i undef) (fun _ => 16) w') (by kernel_rfl) (by kernel_rfl) rfl rfl (fun LL hL => LayG.start fun i hi => hL i (Nat.lt_of_lt_of_le hi (by decide))) ?_ ?_
              · simp only [invOps, and_true]
                refine ⟨?_,?_,?_,?_,?_,?_,?_,?_,?_,?_,?_,?_,?_,?_,?_,?_,?_,?_,?_,?_,?_⟩
                · intro LL xs W hI hL hn
                  simp only [flowAct, zwc, zwn]
                  go_wp2_with (fail)
                  exact ⟨rfl, _, rfl, hI.set HGS.out 0 (by decide) (Below.refl _ _) rfl⟩
                · intro LL xs W hI hL hn
                  simp only [flowAct, zwc, zwn]
                  go_wp2_with (fail)
                  exact ⟨rfl, _, rfl, hI.set HGS.out 1 (by decide) (Below.refl _ _) rfl⟩
                · intro LL xs W hI hL hn
                  obtain ⟨w0, w1, w2, w3⟩ := wr_cells (heap_below HS8.out hI.below)
                  simp [invNeeds, Region.binds] at hn
                  have e1 : xs 1 = .pointer (some ⟨gw, 1, none⟩) := hI.2.1 1 (by decide) (by simp only [hn])
                  simp only [flowAct, zwc, zwn]
                  simp only [e1]
                  go_wp2_with (fail)
                  exact ⟨rfl, _, rfl, hI.set HGS.out 2 (by decide) (Below.refl _ _) rfl⟩
                · intro LL xs W hI hL hn
                  simp [invNeeds, Region.binds] at hn
                  have e0 : xs 0 = .slice (some ⟨bg, og, none⟩) n1 cap := hI.2.1 0 (by decide) (by simp only [hn])
                  have e2 : xs 2 = .int .i64 (ii : Int) := hI.2.1 2 (by decide) (by simp only [hn])
                  simp only [flowAct, zwc, zwn]
                  simp only [e0, e2]
                  go_wp2_with (fail)
                  exact ⟨rfl, _, rfl, hI.set HGS.out 3 (by decide) (Below.refl _ _) rfl⟩
                · intro LL xs W hI hL hn
                  simp [invNeeds, Region.binds] at hn
                  have e3 : xs 3 = .pointer (some ⟨bg, og + ii * 2, none⟩) := hI.2.1 3 (by decide) (by simp only [hn])
                  simp only [flowAct, zwc, zwn]
                  simp only [e3]
                  go_wp2_with (fail)
                  exact ⟨rfl, _, rfl, hI.set HGS.out 4 (by decide) (Below.refl _ _) rfl⟩
                · intro LL xs W hI hL hn
                  obtain ⟨g0, g1⟩ := HGT.out W (HB8.out.trans (hI.below.mono HB8.out.size))
                  simp [invNeeds, Region.binds] at hn
                  have e4 : xs 4 = .pointer (some ⟨bg, og + ii * 2 + 1, none⟩) := hI.2.1 4 (by decide) (by simp only [hn])
                  simp only [flowAct, zwc, zwn]
                  simp only [e4]
                  go_wp2_with (fail)
                  exact ⟨rfl, _, rfl, hI.set HGS.out 5 (by decide) (Below.refl _ _) rfl⟩
                · intro LL xs W hI hL hn
                  simp only [flowAct, zwc, zwn]
                  go_wp2_with (fail)
                  exact ⟨rfl, _, rfl, hI.set HGS.out 6 (by decide) (Below.refl _ _) rfl⟩
                · intro LL xs W hI hL hn
                  obtain ⟨c0, c1, c2, c3, c4, c5, c6⟩ := ch_cells (heap_below HR8.out hI.below)
                  simp [invNeeds, Region.binds] at hn
                  have e6 : xs 6 = .pointer (some ⟨B, 2, none⟩) := hI.2.1 6 (by decide) (by simp only [hn])
                  simp only [flowAct, zwc, zwn]
                  simp only [e6]
                  go_wp2_with (fail)
                  exact ⟨rfl, _, rfl, hI.set HGS.out 7 (by decide) (Below.refl _ _) rfl⟩
                · intro LL xs W hI hL hn
                  simp only [flowAct, zwc, zwn]
                  go_wp2_with (fail)
                  exact ⟨rfl, _, rfl, hI.set HGS.out 8 (by decide) (Below.refl _ _) rfl⟩
                · intro LL xs W hI hL hn
                  obtain ⟨c0, c1, c2, c3, c4, c5, c6⟩ := ch_cells (heap_below HR8.out hI.below)
                  simp [invNeeds, Region.binds] at hn
                  have e8 : xs 8 = .pointer (some ⟨B, 4, none⟩) := hI.2.1 8 (by decide) (by simp only [hn])
                  simp only [flowAct, zwc, zwn]
                  simp only [e8]
                  go_wp2_with (fail)
                  exact ⟨rfl, _, rfl, hI.set HGS.out 9 (by decide) (Below.refl _ _) rfl⟩
                · intro LL xs W hI hL hn
                  simp only [flowAct, zwc, zwn]
                  go_wp2_with (fail)
                  exact ⟨rfl, _, rfl, hI.set HGS.out 10 (by decide) (Below.refl _ _) rfl⟩
                · intro LL xs W hI hL hn
                  obtain ⟨w0, w1, w2, w3⟩ := wr_cells (heap_below HS8.out hI.below)
                  simp [invNeeds, Region.binds] at hn
                  have e10 : xs 10 = .pointer (some ⟨gw, 2, none⟩) := hI.2.1 10 (by decide) (by simp only [hn])
                  simp only [flowAct, zwc, zwn]
                  simp only [e10]
                  go_wp2_with (fail)
                  exact ⟨rfl, _, rfl, hI.set HGS.out 11 (by decide) (Below.refl _ _) rfl⟩
                · intro LL xs W hI hL hn
                  simp only [flowAct, zwc, zwn]
                  go_wp2_with (fail)
                  exact ⟨rfl, _, rfl, hI.set HGS.out 12 (by decide) (Below.refl _ _) rfl⟩
                · intro LL xs W hI hL hn
                  obtain ⟨w0, w1, w2, w3⟩ := wr_cells (heap_below HS8.out hI.below)
                  simp [invNeeds, Region.binds] at hn
                  have e12 : xs 12 = .pointer (some ⟨gw, 3, none⟩) := hI.2.1 12 (by decide) (by simp only [hn])
                  simp only [flowAct, zwc, zwn]
                  simp only [e12]
                  go_wp2_with (fail)
                  exact ⟨rfl, _, rfl, hI.set HGS.out 13 (by decide) (Below.refl _ _) rfl⟩
                · intro LL xs W hI hL hn
                  simp [invNeeds, Region.binds] at hn
                  have e5 : xs 5 = .int .i64 pk := hI.2.1 5 (by decide) (by simp only [hn])
                  have e7 : xs 7 = .agg #[.int .i64 n, .int .i64 s] := hI.2.1 7 (by decide) (by simp only [hn])
                  have e9 : xs 9 = .agg #[.int .i64 a, .int .i64 b] := hI.2.1 9 (by decide) (by simp only [hn])
                  have e11 : xs 11 = .bool gx := hI.2.1 11 (by decide) (by simp only [hn])
                  have e13 : xs 13 = .string (text vx) := hI.2.1 13 (by decide) (by simp only [hn])
                  simp only [flowAct, zwc, zwn]
                  simp only [e5, e7, e9, e11, e13]
                  go_wp2_with (go_at_call 90; (with_reducible refine (HCO.out _).mono ?_); rintro e9 w9 ⟨rfl, hb9⟩)
                  exact ⟨rfl, _, rfl, hI.set HGS.out 14 (by decide) hb9 rfl⟩
                · intro LL xs W hI hL hn
                  simp [invNeeds, Region.binds] at hn
                  have e14 : xs 14 = .tuple #[.agg #[.int .i64 n9, .int .i64 s9, .int .i64 a9, .int .i64 b9, .bool g9, .string (text t9), .int .i64 d9, .int .i64 e9], .int .i64 f9] := hI.2.1 14 (by decide) (by simp only [hn])
                  simp only [flowAct, zwc, zwn]
                  simp only [e14]
                  go_wp2_with (fail)
                  exact ⟨rfl, _, rfl, hI.set HGS.out 15 (by decide) (Below.refl _ _) rfl⟩
                · intro LL xs W hI hL hn
                  simp [invNeeds, Region.binds] at hn
                  have e15 : xs 15 = .tuple #[.agg #[.int .i64 n9, .int .i64 s9, .int .i64 a9, .int .i64 b9, .bool g9, .string (text t9), .int .i64 d9, .int .i64 e9], .int .i64 f9] := hI.2.1 15 (by decide) (by simp only [hn])
                  simp only [flowAct, zwc, zwn]
                  simp only [e15]
                  go_wp2_with (fail)
                  exact ⟨rfl, _, rfl, hI.set HGS.out 16 (by decide) (Below.refl _ _) rfl⟩
                · intro LL xs W hI hL hn
                  simp [invNeeds, Region.binds] at hn
                  have e15 : xs 15 = .tuple #[.agg #[.int .i64 n9, .int .i64 s9, .int .i64 a9, .int .i64 b9, .bool g9, .string (text t9), .int .i64 d9, .int .i64 e9], .int .i64 f9] := hI.2.1 15 (by decide) (by simp only [hn])
                  simp only [flowAct, zwc, zwn]
                  simp only [e15]
                  go_wp2_with (fail)
                  exact ⟨rfl, _, rfl, hI.set HGS.out 17 (by decide) (Below.refl _ _) rfl⟩
                · intro LL xs W hI hL hn
                  simp only [flowAct, zwc, zwn]
                  go_wp2_with (fail)
                  exact ⟨rfl, _, rfl, hI.alloc HGS.out 0 (by decide) rfl hL⟩
                · intro LL xs W hI hL hn
                  simp [invNeeds, Region.binds] at hn
                  obtain ⟨hk, hv⟩ : LL 18 = true ∧ LL 16 = true := by simp only [hn, and_self]
                  obtain ⟨g5, cs5, eg, lg, hgc, hz5⟩ := hI.2.2.1 0 (by decide) hk
                  rw [if_neg (by rw [show LL (18 + 1 + 0) = false from hL]; decide)] at hz5
                  subst hz5
                  have e0 : xs 16 = .agg #[.int .i64 n9, .int .i64 s9, .int .i64 a9, .int .i64 b9, .bool g9, .string (text t9), .int .i64 d9, .int .i64 e9] := hI.2.1 16 (by decide) hv
                  have e1 : xs 18 = .pointer (some ⟨g5, 0, none⟩) := eg
                  have hc5 : Cel W g5 0 0 0 0 false [] 0 0 := hgc
                  obtain ⟨p0, p1, p2, p3, p4, p5, p6, p7⟩ := hc5.cs
                  have pfz := hc5.fz
                  simp only [flowAct, zwc, zwn]
                  simp only [e0, e1]
                  go_wp2_with (fail)
                  exact ⟨rfl, undef, rfl, hI.store HGS.out 0 (by decide) rfl rfl hk eg rfl (Wrote.cell8 hc5 n9 s9 a9 b9 g9 t9 d9 e9) undef⟩
                · intro LL xs W hI hL hn
                  simp [invNeeds, Region.binds] at hn
                  have e17 : xs 17 = .int .i64 f9 := hI.2.1 17 (by decide) (by simp only [hn])
                  simp only [flowAct, zwc, zwn]
                  simp only [e17]
                  go_wp2_with (fail)
                  exact ⟨rfl, _, rfl, hI.other 20 (by decide) _⟩
              · intro LL xs W hI hall
                obtain ⟨hW, -, hP, -,-⟩ := hI
                obtain ⟨gx9, cs7, e7, l7, h7, g7⟩ := hP 0 (by decide) (hall 18 (by decide))
                rw [if_pos (hall (18 + 1 + 0) (by decide))] at g7
                have g7 : Value.agg cs7 = .agg #[.int .i64 n9, .int .i64 s9, .int .i64 a9, .int .i64 b9, .bool g9, .string (text t9), .int .i64 d9, .int .i64 e9] := g7
                injection g7 with g7
                subst g7
                clear g7
                replace e7 : xs 18 = _ := e7
                clear hP hall
                simp only [flowAct, zwc, zwn]
                simp only [e7]
                have hbk := HB8.out.trans (hW.mono HB8.out.size)
                have hrk := heap_below HR8.out hW
                have hsk := heap_below HS8.out hW
                have hok := HO8.out.kept hW
                have hoc := HOC8.out.kept hW
                have hlc := fun W' (h : Below W.heap.size W W') => HLC8.out W' (hW.trans (h.mono hW.size))
                have hce : Cel W gx9 n9 s9 a9 b9 g9 t9 d9 e9 := h7
                clear e7 h7 hW HGS HGT
                obtain ⟨WK, hWK⟩ : ∃ X, W = X := ⟨_, rfl⟩
                rw [hWK] at hbk hrk hsk hok hoc hlc hce ⊢
                clear hWK HB8 HR8 HS8 HO8 HOC8 HLC8
                have HB7 := Lib.hid hbk
                have HR7 := Lib.hid hrk
                have HS7 := Lib.hid hsk
                have HO7 := Lib.hid hok
                have HOC7 := Lib.hid hoc
                have HLC7 := Lib.hid hlc
                have HCE := Lib.hid hce
                clear hbk hrk hsk hok hoc hlc hce
                go_upto_region 12 with (fail)
                refine wp_region_flow_tail 10 [none,none,none,none,none,none,none,none,none,none,none,none,none,none,none,none,none,none,none,none,none,none,none,none,none,none,none,none,none,none,none,none,none,none,none,none,none,none,none,none,none,none,none,none,none,none,none,none,none,none,none,none,none,none,none,none,none,none,none,none,none,none,none,none,none,none,none,none,none,none, some 0, some 1, some 2, some 3, some 4, some 5, some 6, some 7, some 8, some 9, none,none] (fun i => [u70, u71, u72, u73, u74, u75, u76, u77, u78, u79].getD i undef) [(fun v _ => v = .slice (some ⟨br9, offr9, none⟩) M9 ct'), (fun v _ => v = .slice (some ⟨br9, offr9, none⟩) M9 ct'), (fun v _ => v = .int .i64 (M9 : Int)), (fun v _ => v = .int .i64 (((p + 1) : Nat) : Int)), (fun v _ => v = .pointer (some ⟨br9, offr9 + (p + 1) * 2, none⟩)), (fun v _ => v = .pointer (some ⟨br9, offr9 + (p + 1) * 2 + 1, none⟩)), (fun v _ => v = .slice (some ⟨gc, 0, none⟩) n1 cc), (fun v _ => v = .pointer (some ⟨gw, 1, none⟩)), (fun v _ => v = .int .i64 (ii : Int)), (fun v _ => v = .agg #[.int .i64 n9, .int .i64 s9, .int .i64 a9, .int .i64 b9, .bool g9, .string (text t9), .int .i64 d9, .int .i64 e9])] (fun _ => False) (by kernel_rfl) (by kernel_rfl) (by kernel_rfl) rfl rfl rfl ?_ ?_ ?_
                · intro g hg v X Y hX hY hv
                  simp only [List.mem_cons, List.not_mem_nil, or_false] at hg
                  rcases hg with rfl | rfl | rfl | rfl | rfl | rfl | rfl | rfl | rfl | rfl
                  all_goals first
                    | exact hv
                    | exact hv.kept hY
                · simp only [flowOpsF, List.take_succ_cons, List.take_zero, and_true]
                  refine ⟨?_,?_,?_,?_,?_,?_,?_,?_,?_,?_⟩
                  · intro xs W hW hn
                    simp only [flowAct, zwc, zwn]
                    go_wp2_with (fail)
                    exact ⟨rfl, _, rfl, Below.refl _ _, rfl, fun h => h.elim⟩
                  · intro xs W hW hn
                    simp only [flowAct, zwc, zwn]
                    go_wp2_with (fail)
                    exact ⟨rfl, _, rfl, Below.refl _ _, rfl, fun h => h.elim⟩
                  · intro xs W hW hn
                    simp [flowNeeds, Region.binds] at hn
                    simp only [flowAct, zwc, zwn]
                    try simp only [hn]
                    go_wp2_with (fail)
                    exact ⟨rfl, _, rfl, Below.refl _ _, rfl, fun h => h.elim⟩
                  · intro xs W hW hn
                    have hm9 := HM9.out
                    simp [flowNeeds, Region.binds] at hn
                    simp only [flowAct, zwc, zwn]
                    simp only [hn]
                    go_wp2_with (fail)
                    exact ⟨rfl, _, rfl, Below.refl _ _, by first | rfl | go_num, fun h => h.elim⟩
                  · intro xs W hW hn
                    simp [flowNeeds, Region.binds] at hn
                    simp only [flowAct, zwc, zwn]
                    try simp only [hn]
                    go_wp2_with (fail)
                    exact ⟨rfl, _, rfl, Below.refl _ _, rfl, fun h => h.elim⟩
                  · intro xs W hW hn
                    simp [flowNeeds, Region.binds] at hn
                    simp only [flowAct, zwc, zwn]
                    try simp only [hn]
                    go_wp2_with (fail)
                    exact ⟨rfl, _, rfl, Below.refl _ _, rfl, fun h => h.elim⟩
                  · intro xs W hW hn
                    obtain ⟨r0, r1⟩ := HLC7.out W hW
                    simp [flowNeeds, Region.binds] at hn
                    simp only [flowAct, zwc, zwn]
                    try simp only [hn]
                    go_wp2_with (fail)
                    exact ⟨rfl, _, rfl, Below.refl _ _, rfl, fun h => h.elim⟩
                  · intro xs W hW hn
                    simp only [flowAct, zwc, zwn]
                    go_wp2_with (fail)
                    exact ⟨rfl, _, rfl, Below.refl _ _, rfl, fun h => h.elim⟩
                  · intro xs W hW hn
                    obtain ⟨w0, w1, w2, w3⟩ := wr_cells (heap_below HS7.out hW)
                    simp [flowNeeds, Region.binds] at hn
                    simp only [flowAct, zwc, zwn]
                    try simp only [hn]
                    go_wp2_with (fail)
                    exact ⟨rfl, _, rfl, Below.refl _ _, rfl, fun h => h.elim⟩
                  · intro xs W hW hn
                    obtain ⟨p0, p1, p2, p3, p4, p5, p6, p7⟩ := (HCE.out.kept hW).cs
                    simp only [flowAct, zwc, zwn]
                    go_wp2_with (fail)
                    exact ⟨rfl, _, rfl, Below.refl _ _, rfl, fun h => h.elim⟩
                · intro xs W hW hall hfr
                  clear hfr
                  simp only [flowAll, and_true, Nat.zero_add, Nat.reduceAdd] at hall
                  obtain ⟨-,-,-,-,-,-, y6, -, y8, y9⟩ := hall
                  simp only [flowAct, zwc, zwn, List.drop_succ_cons, List.drop_zero]
                  simp only [y6, y8, y9]
                  have HBx := Lib.hid (HB7.out.trans (hW.mono HB7.out.size))
                  have HRx := Lib.hid (heap_below HR7.out hW)
                  have HOx := Lib.hid (HO7.out.kept hW)
                  have HOCx := Lib.hid (HOC7.out.kept hW)
                  have hlk : ii < CS.length := by have := HCS8.out; omega
                  have HLK := Lib.hid hlk
                  have pfz := own_fz HOCx.out
                  obtain ⟨p0, p1, p2, p3, p4, p5, p6, p7⟩ := own_at HOCx.out hlk _ (Below.refl _ _)
                  clear y6 y8 y9 hW hlk
                  go_wp2
                  go_roundw
                  case rel => exact ⟨k + 1, _, LT.set (p + 1) ⟨kx, .slice (some ⟨gc, 0, none⟩) n1 cc, CS.set ii ⟨n9, s9, a9, b9, g9, t9, d9, e9⟩⟩, by omega, by go_num, rfl, (by have hst := OwnRw.store HOx.out (j := (p + 1)) (by rw [HTL.out]; omega) (by rw [HLPn.out]; exact put_only (k := ii) n9 s9 a9 b9 g9 t9 d9 e9) (by rw [HLPn.out]; exact own_put HOCx.out HLK.out n9 s9 a9 b9 g9 t9 d9 e9) (by rw [List.length_set]; exact HCS8.out) hn0; rw [HLPn.out] at hst; exact hst), HPUT.out, cells_put_below (k := ii) HBx.out HGC.out n9 s9 a9 b9 g9 t9 d9 e9, ((put_only (g := gc) (m := n1) (c := cc) (k := ii) n9 s9 a9 b9 g9 t9 d9 e9).rest B (own_ne HRx.out (by decide) HOCx.out)).trans HRx.out⟩
                  case measure => simp [intOf]; omega
            | true =>
              obtain rfl : kx = kl := by have := HQ9.out; exact (by simpa using this : kl = kx).symm
              have HGC := Lib.hid hgcB
              have HPUT := Lib.hid (show (L.set p (⟨kx, .slice (some ⟨gc, 0, none⟩) n1 cc, csl.set ii ⟨n9, s9, a9, b9, g9, t9, d9, e9⟩⟩ : Rw)).map Rw.pr = wrowN gs n s a b l (k + 1) by
                have h := put_old (n1 := n1) (L := L) (R := L.map Rw.pr) (k := kx) (i := ii) (x := ⟨n9, s9, a9, b9, g9, t9, d9, e9⟩) rfl HLL.out (by rw [HLP.out])
                rw [HLP.out] at h
                rw [HN.out]; exact h)
              obtain ⟨LT, hLT⟩ : ∃ z, L = z := ⟨_, rfl⟩
              rw [hLT] at HLL HOT HLP HPUT
              have HTL := Lib.hid HLL.out
              have HB8 := Lib.hid HBT.out
              have HR8 := Lib.hid HRT.out
              have HS8 := Lib.hid HST.out
              have HO8 := Lib.hid HOT.out
              have HOC8 := Lib.hid HOCT.out
              have HLC8 := Lib.hid HLCT.out
              have HCS8 := Lib.hid HCS.out
              obtain ⟨CS, hCS⟩ : ∃ z, csl = z := ⟨_, rfl⟩
              rw [hCS] at HLP HPUT HOC8 HCS8
              clear hCS hLT HBT HRT HST HOT HOCT HLCT HOC HLC HCS
              go_upto_region 11 with (fail)
              obtain ⟨M9, hM9⟩ : ∃ z, p + 1 = z := ⟨_, rfl⟩
              rw [hM9] at HO8 hct1 ⊢
              have HM9 := Lib.hid (show (M9 : Int) - 1 = ((p : Nat) : Int) by omega)
              have hM8 : ((p : Nat) : Int) < (M9 : Int) := by omega
              have hM7 : ((p : Nat) : Int) < (cl : Int) := by omega
              have HMM := Lib.hid hM9
              clear hM9
              have HGS := Lib.hid (show GSt 79 (fun i v _ => v = [.slice (some ⟨bg, og, none⟩) n1 cap, .pointer (some ⟨gw, 1, none⟩), .int .i64 (ii : Int), .pointer (some ⟨bg, og + ii * 2, none⟩), .pointer (some ⟨bg, og + ii * 2 + 1, none⟩), .int .i64 pk, .pointer (some ⟨B, 2, none⟩), .agg #[.int .i64 n, .int .i64 s], .pointer (some ⟨B, 4, none⟩), .agg #[.int .i64 a, .int .i64 b], .pointer (some ⟨gw, 2, none⟩), .bool gx, .pointer (some ⟨gw, 3, none⟩), .string (text vx), .tuple #[.agg #[.int .i64 n9, .int .i64 s9, .int .i64 a9, .int .i64 b9, .bool g9, .string (text t9), .int .i64 d9, .int .i64 e9], .int .i64 f9], .tuple #[.agg #[.int .i64 n9, .int .i64 s9, .int .i64 a9, .int .i64 b9, .bool g9, .string (text t9), .int .i64 d9, .int .i64 e9], .int .i64 f9], .agg #[.int .i64 n9, .int .i64 s9, .int .i64 a9, .int .i64 b9, .bool g9, .string (text t9), .int .i64 d9, .int .i64 e9], .int .i64 f9].getD i undef) from ⟨fun i v X Y h _ => h, fun i v X Y q cs ds _ _ h => h⟩)
              refine wp_region_inv [none,none,none,none,none,none,none,none,none,none, some 18, some 20, none,none,none,none,none,none,none,none,none,none,none,none,none,none,none,none,none,none,none,none,none,none,none,none,none,none,none,none,none,none,none,none,none,none,none,none,none,none,none,none, some 15, some 0, some 1, some 2, some 3, some 4, some 5, some 6, some 7, some 8, some 9, some 10, some 11, some 12, some 13, some 14, some 16, some 17, none,none,none,none,none,none,none,none,none,none,none,none] (fun i => [u53, u54, u55, u56, u57, u58, u59, u60, u61, u62, u63, u64, u65, u66, u67, u52, u68, u69, u10, undef, u11].getD i undef) (LayG 18 1 79 #[.int .i64 0, .int .i64 0, .int .i64 0, .int .i64 0, .bool false, .string ⟨#[]⟩, .int .i64 0, .int .i64 0] (fun i v _ => v = [.slice (some ⟨bg, og, none⟩) n1 cap, .pointer (some ⟨gw, 1, none⟩), .int .i64 (ii : Int), .pointer (some ⟨bg, og + ii * 2, none⟩), .pointer (some ⟨bg, og + ii * 2 + 1, none⟩), .int .i64 pk, .pointer (some ⟨B, 2, none⟩), .agg #[.int .i64 n, .int .i64 s], .pointer (some ⟨B, 4, none⟩), .agg #[.int .i64 a, .int .i64 b], .pointer (some ⟨gw, 2, none⟩), .bool gx, .pointer (some ⟨gw, 3, none⟩), .string (text vx), .tuple #[.agg #[.int .i64 n9, .int .i64 s9, .int .i64 a9, .int .i64 b9, .bool g9, .string (text t9), .int .i64 d9, .int .i64 e9], .int .i64 f9], .tuple #[.agg #[.int .i64 n9, .int .i64 s9, .int .i64 a9, .int .i64 b9, .bool g9, .string (text t9), .int .i64 d9, .int .i64 e9], .int .i64 f9], .agg #[.int .i64 n9, .int .i64 s9, .int .i64 a9, .int .i64 b9, .bool g9, .string (text t9), .int .i64 d9, .int .i64 e9], .int .i64 f9].getD i undef) (fun _ => 16) WK) (by kernel_rfl) (by kernel_rfl) rfl rfl (fun LL hL => LayG.start fun i hi => hL i (Nat.lt_of_lt_of_le hi (by decide))) ?_ ?_
              · simp only [invOps, and_true]
                refine ⟨?_,?_,?_,?_,?_,?_,?_,?_,?_,?_,?_,?_,?_,?_,?_,?_,?_,?_,?_,?_,?_⟩
                · intro LL xs W hI hL hn
                  simp only [flowAct, zwc, zwn]
                  go_wp2_with (fail)
                  exact ⟨rfl, _, rfl, hI.set HGS.out 0 (by decide) (Below.refl _ _) rfl⟩
                · intro LL xs W hI hL hn
                  simp only [flowAct, zwc, zwn]
                  go_wp2_with (fail)
                  exact ⟨rfl, _, rfl, hI.set HGS.out 1 (by decide) (Below.refl _ _) rfl⟩
                · intro LL xs W hI hL hn
                  obtain ⟨w0, w1, w2, w3⟩ := wr_cells (heap_below HS8.out hI.below)
                  simp [invNeeds, Region.binds] at hn
                  have e1 : xs 1 = .pointer (some ⟨gw, 1, none⟩) := hI.2.1 1 (by decide) (by simp only [hn])
                  simp only [flowAct, zwc, zwn]
                  simp only [e1]
                  go_wp2_with (fail)
                  exact ⟨rfl, _, rfl, hI.set HGS.out 2 (by decide) (Below.refl _ _) rfl⟩
                · intro LL xs W hI hL hn
                  simp [invNeeds, Region.binds] at hn
                  have e0 : xs 0 = .slice (some ⟨bg, og, none⟩) n1 cap := hI.2.1 0 (by decide) (by simp only [hn])
                  have e2 : xs 2 = .int .i64 (ii : Int) := hI.2.1 2 (by decide) (by simp only [hn])
                  simp only [flowAct, zwc, zwn]
                  simp only [e0, e2]
                  go_wp2_with (fail)
                  exact ⟨rfl, _, rfl, hI.set HGS.out 3 (by decide) (Below.refl _ _) rfl⟩
                · intro LL xs W hI hL hn
                  simp [invNeeds, Region.binds] at hn
                  have e3 : xs 3 = .pointer (some ⟨bg, og + ii * 2, none⟩) := hI.2.1 3 (by decide) (by simp only [hn])
                  simp only [flowAct, zwc, zwn]
                  simp only [e3]
                  go_wp2_with (fail)
                  exact ⟨rfl, _, rfl, hI.set HGS.out 4 (by decide) (Below.refl _ _) rfl⟩
                · intro LL xs W hI hL hn
                  obtain ⟨g0, g1⟩ := HGT.out W (HB8.out.trans (hI.below.mono HB8.out.size))
                  simp [invNeeds, Region.binds] at hn
                  have e4 : xs 4 = .pointer (some ⟨bg, og + ii * 2 + 1, none⟩) := hI.2.1 4 (by decide) (by simp only [hn])
                  simp only [flowAct, zwc, zwn]
                  simp only [e4]
                  go_wp2_with (fail)
                  exact ⟨rfl, _, rfl, hI.set HGS.out 5 (by decide) (Below.refl _ _) rfl⟩
                · intro LL xs W hI hL hn
                  simp only [flowAct, zwc, zwn]
                  go_wp2_with (fail)
                  exact ⟨rfl, _, rfl, hI.set HGS.out 6 (by decide) (Below.refl _ _) rfl⟩
                · intro LL xs W hI hL hn
                  obtain ⟨c0, c1, c2, c3, c4, c5, c6⟩ := ch_cells (heap_below HR8.out hI.below)
                  simp [invNeeds, Region.binds] at hn
                  have e6 : xs 6 = .pointer (some ⟨B, 2, none⟩) := hI.2.1 6 (by decide) (by simp only [hn])
                  simp only [flowAct, zwc, zwn]
                  simp only [e6]
                  go_wp2_with (fail)
                  exact ⟨rfl, _, rfl, hI.set HGS.out 7 (by decide) (Below.refl _ _) rfl⟩
                · intro LL xs W hI hL hn
                  simp only [flowAct, zwc, zwn]
                  go_wp2_with (fail)
                  exact ⟨rfl, _, rfl, hI.set HGS.out 8 (by decide) (Below.refl _ _) rfl⟩
                · intro LL xs W hI hL hn
                  obtain ⟨c0, c1, c2, c3, c4, c5, c6⟩ := ch_cells (heap_below HR8.out hI.below)
                  simp [invNeeds, Region.binds] at hn
                  have e8 : xs 8 = .pointer (some ⟨B, 4, none⟩) := hI.2.1 8 (by decide) (by simp only [hn])
                  simp only [flowAct, zwc, zwn]
                  simp only [e8]
                  go_wp2_with (fail)
                  exact ⟨rfl, _, rfl, hI.set HGS.out 9 (by decide) (Below.refl _ _) rfl⟩
                · intro LL xs W hI hL hn
                  simp only [flowAct, zwc, zwn]
                  go_wp2_with (fail)
                  exact ⟨rfl, _, rfl, hI.set HGS.out 10 (by decide) (Below.refl _ _) rfl⟩
                · intro LL xs W hI hL hn
                  obtain ⟨w0, w1, w2, w3⟩ := wr_cells (heap_below HS8.out hI.below)
                  simp [invNeeds, Region.binds] at hn
                  have e10 : xs 10 = .pointer (some ⟨gw, 2, none⟩) := hI.2.1 10 (by decide) (by simp only [hn])
                  simp only [flowAct, zwc, zwn]
                  simp only [e10]
                  go_wp2_with (fail)
                  exact ⟨rfl, _, rfl, hI.set HGS.out 11 (by decide) (Below.refl _ _) rfl⟩
                · intro LL xs W hI hL hn
                  simp only [flowAct, zwc, zwn]
                  go_wp2_with (fail)
                  exact ⟨rfl, _, rfl, hI.set HGS.out 12 (by decide) (Below.refl _ _) rfl⟩
                · intro LL xs W hI hL hn
                  obtain ⟨w0, w1, w2, w3⟩ := wr_cells (heap_below HS8.out hI.below)
                  simp [invNeeds, Region.binds] at hn
                  have e12 : xs 12 = .pointer (some ⟨gw, 3, none⟩) := hI.2.1 12 (by decide) (by simp only [hn])
                  simp only [flowAct, zwc, zwn]
                  simp only [e12]
                  go_wp2_with (fail)
                  exact ⟨rfl, _, rfl, hI.set HGS.out 13 (by decide) (Below.refl _ _) rfl⟩
                · intro LL xs W hI hL hn
                  simp [invNeeds, Region.binds] at hn
                  have e5 : xs 5 = .int .i64 pk := hI.2.1 5 (by decide) (by simp only [hn])
                  have e7 : xs 7 = .agg #[.int .i64 n, .int .i64 s] := hI.2.1 7 (by decide) (by simp only [hn])
                  have e9 : xs 9 = .agg #[.int .i64 a, .int .i64 b] := hI.2.1 9 (by decide) (by simp only [hn])
                  have e11 : xs 11 = .bool gx := hI.2.1 11 (by decide) (by simp only [hn])
                  have e13 : xs 13 = .string (text vx) := hI.2.1 13 (by decide) (by simp only [hn])
                  simp only [flowAct, zwc, zwn]
                  simp only [e5, e7, e9, e11, e13]
                  go_wp2_with (go_at_call 90; (with_reducible refine (HCO.out _).mono ?_); rintro e9 w9 ⟨rfl, hb9⟩)
                  exact ⟨rfl, _, rfl, hI.set HGS.out 14 (by decide) hb9 rfl⟩
                · intro LL xs W hI hL hn
                  simp [invNeeds, Region.binds] at hn
                  have e14 : xs 14 = .tuple #[.agg #[.int .i64 n9, .int .i64 s9, .int .i64 a9, .int .i64 b9, .bool g9, .string (text t9), .int .i64 d9, .int .i64 e9], .int .i64 f9] := hI.2.1 14 (by decide) (by simp only [hn])
                  simp only [flowAct, zwc, zwn]
                  simp only [e14]
                  go_wp2_with (fail)
                  exact ⟨rfl, _, rfl, hI.set HGS.out 15 (by decide) (Below.refl _ _) rfl⟩
                · intro LL xs W hI hL hn
                  simp [invNeeds, Region.binds] at hn
                  have e15 : xs 15 = .tuple #[.agg #[.int .i64 n9, .int .i64 s9, .int .i64 a9, .int .i64 b9, .bool g9, .string (text t9), .int .i64 d9, .int .i64 e9], .int .i64 f9] := hI.2.1 15 (by decide) (by simp only [hn])
                  simp only [flowAct, zwc, zwn]
                  simp only [e15]
                  go_wp2_with (fail)
                  exact ⟨rfl, _, rfl, hI.set HGS.out 16 (by decide) (Below.refl _ _) rfl⟩
                · intro LL xs W hI hL hn
                  simp [invNeeds, Region.binds] at hn
                  have e15 : xs 15 = .tuple #[.agg #[.int .i64 n9, .int .i64 s9, .int .i64 a9, .int .i64 b9, .bool g9, .string (text t9), .int .i64 d9, .int .i64 e9], .int .i64 f9] := hI.2.1 15 (by decide) (by simp only [hn])
                  simp only [flowAct, zwc, zwn]
                  simp only [e15]
                  go_wp2_with (fail)
                  exact ⟨rfl, _, rfl, hI.set HGS.out 17 (by decide) (Below.refl _ _) rfl⟩
                · intro LL xs W hI hL hn
                  simp only [flowAct, zwc, zwn]
                  go_wp2_with (fail)
                  exact ⟨rfl, _, rfl, hI.alloc HGS.out 0 (by decide) rfl hL⟩
                · intro LL xs W hI hL hn
                  simp [invNeeds, Region.binds] at hn
                  obtain ⟨hk, hv⟩ : LL 18 = true ∧ LL 16 = true := by simp only [hn, and_self]
                  obtain ⟨g5, cs5, eg, lg, hgc, hz5⟩ := hI.2.2.1 0 (by decide) hk
                  rw [if_neg (by rw [show LL (18 + 1 + 0) = false from hL]; decide)] at hz5
                  subst hz5
                  have e0 : xs 16 = .agg #[.int .i64 n9, .int .i64 s9, .int .i64 a9, .int .i64 b9, .bool g9, .string (text t9), .int .i64 d9, .int .i64 e9] := hI.2.1 16 (by decide) hv
                  have e1 : xs 18 = .pointer (some ⟨g5, 0, none⟩) := eg
                  have hc5 : Cel W g5 0 0 0 0 false [] 0 0 := hgc
                  obtain ⟨p0, p1, p2, p3, p4, p5, p6, p7⟩ := hc5.cs
                  have pfz := hc5.fz
                  simp only [flowAct, zwc, zwn]
                  simp only [e0, e1]
                  go_wp2_with (fail)
                  exact ⟨rfl, undef, rfl, hI.store HGS.out 0 (by decide) rfl rfl hk eg rfl (Wrote.cell8 hc5 n9 s9 a9 b9 g9 t9 d9 e9) undef⟩
                · intro LL xs W hI hL hn
                  simp [invNeeds, Region.binds] at hn
                  have e17 : xs 17 = .int .i64 f9 := hI.2.1 17 (by decide) (by simp only [hn])
                  simp only [flowAct, zwc, zwn]
                  simp only [e17]
                  go_wp2_with (fail)
                  exact ⟨rfl, _, rfl, hI.other 20 (by decide) _⟩
              · intro LL xs W hI hall
                obtain ⟨hW, -, hP, -,-⟩ := hI
                obtain ⟨gx9, cs7, e7, l7, h7, g7⟩ := hP 0 (by decide) (hall 18 (by decide))
                rw [if_pos (hall (18 + 1 + 0) (by decide))] at g7
                have g7 : Value.agg cs7 = .agg #[.int .i64 n9, .int .i64 s9, .int .i64 a9, .int .i64 b9, .bool g9, .string (text t9), .int .i64 d9, .int .i64 e9] := g7
                injection g7 with g7
                subst g7
                clear g7
                replace e7 : xs 18 = _ := e7
                clear hP hall
                simp only [flowAct, zwc, zwn]
                simp only [e7]
                have hbk := HB8.out.trans (hW.mono HB8.out.size)
                have hrk := heap_below HR8.out hW
                have hsk := heap_below HS8.out hW
                have hok := HO8.out.kept hW
                have hoc := HOC8.out.kept hW
                have hlc := fun W' (h : Below W.heap.size W W') => HLC8.out W' (hW.trans (h.mono hW.size))
                have hce : Cel W gx9 n9 s9 a9 b9 g9 t9 d9 e9 := h7
                clear e7 h7 hW HGS HGT
                obtain ⟨WK, hWK⟩ : ∃ X, W = X := ⟨_, rfl⟩
                rw [hWK] at hbk hrk hsk hok hoc hlc hce ⊢
                clear hWK HB8 HR8 HS8 HO8 HOC8 HLC8
                have HB7 := Lib.hid hbk
                have HR7 := Lib.hid hrk
                have HS7 := Lib.hid hsk
                have HO7 := Lib.hid hok
                have HOC7 := Lib.hid hoc
                have HLC7 := Lib.hid hlc
                have HCE := Lib.hid hce
                clear hbk hrk hsk hok hoc hlc hce
                go_upto_region 12 with (fail)
                refine wp_region_flow_tail 10 [none,none,none,none,none,none,none,none,none,none,none,none,none,none,none,none,none,none,none,none,none,none,none,none,none,none,none,none,none,none,none,none,none,none,none,none,none,none,none,none,none,none,none,none,none,none,none,none,none,none,none,none,none,none,none,none,none,none,none,none,none,none,none,none,none,none,none,none,none,none, some 0, some 1, some 2, some 3, some 4, some 5, some 6, some 7, some 8, some 9, none,none] (fun i => [u70, u71, u72, u73, u74, u75, u76, u77, u78, u79].getD i undef) [(fun v _ => v = .slice (some ⟨br, offr, none⟩) M9 cl), (fun v _ => v = .slice (some ⟨br, offr, none⟩) M9 cl), (fun v _ => v = .int .i64 (M9 : Int)), (fun v _ => v = .int .i64 ((p : Nat) : Int)), (fun v _ => v = .pointer (some ⟨br, offr + p * 2, none⟩)), (fun v _ => v = .pointer (some ⟨br, offr + p * 2 + 1, none⟩)), (fun v _ => v = .slice (some ⟨gc, 0, none⟩) n1 cc), (fun v _ => v = .pointer (some ⟨gw, 1, none⟩)), (fun v _ => v = .int .i64 (ii : Int)), (fun v _ => v = .agg #[.int .i64 n9, .int .i64 s9, .int .i64 a9, .int .i64 b9, .bool g9, .string (text t9), .int .i64 d9, .int .i64 e9])] (fun _ => False) (by kernel_rfl) (by kernel_rfl) (by kernel_rfl) rfl rfl rfl ?_ ?_ ?_
                · intro g hg v X Y hX hY hv
                  simp only [List.mem_cons, List.not_mem_nil, or_false] at hg
                  rcases hg with rfl | rfl | rfl | rfl | rfl | rfl | rfl | rfl | rfl | rfl
                  all_goals first
                    | exact hv
                    | exact hv.kept hY
                · simp only [flowOpsF, List.take_succ_cons, List.take_zero, and_true]
                  refine ⟨?_,?_,?_,?_,?_,?_,?_,?_,?_,?_⟩
                  · intro xs W hW hn
                    simp only [flowAct, zwc, zwn]
                    go_wp2_with (fail)
                    exact ⟨rfl, _, rfl, Below.refl _ _, rfl, fun h => h.elim⟩
                  · intro xs W hW hn
                    simp only [flowAct, zwc, zwn]
                    go_wp2_with (fail)
                    exact ⟨rfl, _, rfl, Below.refl _ _, rfl, fun h => h.elim⟩
                  · intro xs W hW hn
                    simp [flowNeeds, Region.binds] at hn
                    simp only [flowAct, zwc, zwn]
                    try simp only [hn]
                    go_wp2_with (fail)
                    exact ⟨rfl, _, rfl, Below.refl _ _, rfl, fun h => h.elim⟩
                  · intro xs W hW hn
                    have hm9 := HM9.out
                    simp [flowNeeds, Region.binds] at hn
                    simp only [flowAct, zwc, zwn]
                    simp only [hn]
                    go_wp2_with (fail)
                    exact ⟨rfl, _, rfl, Below.refl _ _, by first | rfl | go_num, fun h => h.elim⟩
                  · intro xs W hW hn
                    simp [flowNeeds, Region.binds] at hn
                    simp only [flowAct, zwc, zwn]
                    try simp only [hn]
                    go_wp2_with (fail)
                    exact ⟨rfl, _, rfl, Below.refl _ _, rfl, fun h => h.elim⟩
                  · intro xs W hW hn
                    simp [flowNeeds, Region.binds] at hn
                    simp only [flowAct, zwc, zwn]
                    try simp only [hn]
                    go_wp2_with (fail)
                    exact ⟨rfl, _, rfl, Below.refl _ _, rfl, fun h => h.elim⟩
                  · intro xs W hW hn
                    obtain ⟨r0, r1⟩ := HLC7.out W hW
                    simp [flowNeeds, Region.binds] at hn
                    simp only [flowAct, zwc, zwn]
                    try simp only [hn]
                    go_wp2_with (fail)
                    exact ⟨rfl, _, rfl, Below.refl _ _, rfl, fun h => h.elim⟩
                  · intro xs W hW hn
                    simp only [flowAct, zwc, zwn]
                    go_wp2_with (fail)
                    exact ⟨rfl, _, rfl, Below.refl _ _, rfl, fun h => h.elim⟩
                  · intro xs W hW hn
                    obtain ⟨w0, w1, w2, w3⟩ := wr_cells (heap_below HS7.out hW)
                    simp [flowNeeds, Region.binds] at hn
                    simp only [flowAct, zwc, zwn]
                    try simp only [hn]
                    go_wp2_with (fail)
                    exact ⟨rfl, _, rfl, Below.refl _ _, rfl, fun h => h.elim⟩
                  · intro xs W hW hn
                    obtain ⟨p0, p1, p2, p3, p4, p5, p6, p7⟩ := (HCE.out.kept hW).cs
                    simp only [flowAct, zwc, zwn]
                    go_wp2_with (fail)
                    exact ⟨rfl, _, rfl, Below.refl _ _, rfl, fun h => h.elim⟩
                · intro xs W hW hall hfr
                  clear hfr
                  simp only [flowAll, and_true, Nat.zero_add, Nat.reduceAdd] at hall
                  obtain ⟨-,-,-,-,-,-, y6, -, y8, y9⟩ := hall
                  simp only [flowAct, zwc, zwn, List.drop_succ_cons, List.drop_zero]
                  simp only [y6, y8, y9]
                  have HBx := Lib.hid (HB7.out.trans (hW.mono HB7.out.size))
                  have HRx := Lib.hid (heap_below HR7.out hW)
                  have HOx := Lib.hid (HO7.out.kept hW)
                  have HOCx := Lib.hid (HOC7.out.kept hW)
                  have hlk : ii < CS.length := by have := HCS8.out; omega
                  have HLK := Lib.hid hlk
                  have pfz := own_fz HOCx.out
                  obtain ⟨p0, p1, p2, p3, p4, p5, p6, p7⟩ := own_at HOCx.out hlk _ (Below.refl _ _)
                  clear y6 y8 y9 hW hlk
                  go_wp2
                  go_roundw
                  case rel => exact ⟨k + 1, _, LT.set p ⟨kx, .slice (some ⟨gc, 0, none⟩) n1 cc, CS.set ii ⟨n9, s9, a9, b9, g9, t9, d9, e9⟩⟩, by omega, by go_num, rfl, (by have hst := OwnRw.store HOx.out (j := p) (by rw [HTL.out]; omega) (by rw [HLP.out]; exact put_only (k := ii) n9 s9 a9 b9 g9 t9 d9 e9) (by rw [HLP.out]; exact own_put HOCx.out HLK.out n9 s9 a9 b9 g9 t9 d9 e9) (by rw [List.length_set]; exact HCS8.out) hn0; rw [HLP.out] at hst; exact hst), HPUT.out, cells_put_below (k := ii) HBx.out HGC.out n9 s9 a9 b9 g9 t9 d9 e9, ((put_only (g := gc) (m := n1) (c := cc) (k := ii) n9 s9 a9 b9 g9 t9 d9 e9).rest B (own_ne HRx.out (by decide) HOCx.out)).trans HRx.out⟩
                  case measure => simp [intOf]; omega
            
      · obtain rfl : m = k := by omega
        go_wp2
        go_ret2
        exact ⟨_, L, by rw [HRR.out]; rfl, HO.out, by rw [HRR.out]; exact HPR.out, HBr.out⟩
  · have h0n : (R != 0) = true := by simpa using h0
    have HRR := Lib.hid (HQ.out h0)
    go_wp2_with (go_at_call 88; (with_reducible refine (HGD.out _ HB1.out).mono ?_); rintro e9 w2 ⟨rfl, hb2⟩)
    go_ret2
    exact ⟨.slice none 0 0, [], by rw [HRR.out]; rfl, OwnRw.nil _ _ _, by rw [HRR.out]; rfl, HB1.out.trans (hb2.mono HB1.out.size)⟩
end Go.Proofs.Yteffbibmfpdenaa
end

section
namespace Go.Proofs.Yteffbibmfpdenaa
open Go.RowKit Go Go.Sort
set_option linter.unusedVariables false
set_option maxRecDepth 20000

abbrev Rp := List UInt8 × List Cl
theorem CelAt.of_block {W W' : World} {b o : Nat} {c : Cl} (h : CelAt W b o c) (hb : W'.heap[b]? = W.heap[b]?) : CelAt W' b o c := by
  have e : ∀ i, W'.cell? ⟨b, i, none⟩ = W.cell? ⟨b, i, none⟩ := fun i => by simp only [World.cell?, hb]
  unfold CelAt at h ⊢
  simp only [e]
  exact h
theorem Cls.of_block {W W' : World} {a : Option Addr} {n cap : Nat} {l : List Cl} (h : Cls W a n cap l) (hb : 0 < n → ∀ q off, a = some ⟨q, off, none⟩ → W'.heap[q]? = W.heap[q]?) : Cls W' a n cap l := by
  refine ⟨h.len, h.le, h.max, ?_⟩
  rcases h.adr with h4 | ⟨b, off, rfl, hc⟩
  · exact .inl h4
  · exact .inr ⟨b, off, rfl, fun i hi => (hc i hi).of_block (hb (by omega) b off rfl)⟩
theorem Cls.lt {W : World} {n cap q off : Nat} {l : List Cl} (h : Cls W (some ⟨q, off, none⟩) n cap l) (hn : 0 < n) : q < W.heap.size := by
  obtain ⟨b, off', e, hc⟩ := h.at hn
  injection e with e
  injection e with e1 e2
  subst e1
  exact World.block_lt_of_cell? W _ (hc W (Below.refl _ _)).1
/-- A row whose cells lie below a block, or in a block of cells. -/
structure RowIn (W : World) (B : Nat) (r : Rw) : Prop where
  has : ∃ a c, r.u = .slice a r.cs.length c ∧ Cls W a r.cs.length c r.cs ∧ (0 < r.cs.length → ∀ q off, a = some ⟨q, off, none⟩ → q < B ∨ ∃ cur fr, W.heap[q]? = some (.cells cur 79 fr))
theorem RowIn.kept {W W' : World} {B : Nat} {r : Rw} (h : RowIn W B r) (hb : Below W.heap.size W W') : RowIn W' B r := by
  obtain ⟨a, c, e, hc, hq⟩ := h.has
  refine ⟨a, c, e, hc.below hb, fun hp q off ea => ?_⟩
  subst ea
  exact (hq hp q off rfl).imp_right fun ⟨cur, fr, hx⟩ => ⟨cur, fr, (hb.block q (hc.lt hp)).trans hx⟩
theorem RowIn.mono {W : World} {B B' : Nat} {r : Rw} (h : RowIn W B r) (hB : B ≤ B') : RowIn W B' r := by
  obtain ⟨a, c, e, hc, hq⟩ := h.has
  exact ⟨a, c, e, hc, fun hp q off ea => (hq hp q off ea).imp_left (fun h => Nat.lt_of_lt_of_le h hB)⟩
/-- .. while a slice of rows, laid at B or later, grows. -/
theorem RowIn.turn {W W' : World} {B B' : Nat} {r : Rw} {v : Value} {L : List Rw} (h : RowIn W B r) (hr : OwnL 2 30 Rw.arr W B' v L) (hB : B ≤ B') (o : Obj) (hg : (W.alloc o).grownBy W' v.ownBlock) : RowIn W' B r := by
  obtain ⟨a, c, e, hc, hq⟩ := h.has
  have hne : 0 < r.cs.length → ∀ q off, a = some ⟨q, off, none⟩ → W'.heap[q]? = W.heap[q]? := fun hp q off ea => by
    subst ea
    have h1 := hc.lt hp
    refine (hg.block q (by simp; omega) (fun e2 => ?_)).trans (Below.heap_alloc W o q h1)
    rcases hq hp q off rfl with h2 | ⟨cur, fr, h2⟩
    · have := (hr.lt q e2.symm).1; omega
    · exact own_ne h2 (by decide) hr e2
  exact ⟨a, c, e, hc.of_block hne, fun hp q off ea => (hq hp q off ea).imp_right fun ⟨cur, fr, hx⟩ => ⟨cur, fr, (hne hp q off ea).trans hx⟩⟩
theorem RowIn.own {W : World} {B B' : Nat} {k : List UInt8} {u : Value} {cs : List Cl} (h : OwnC W B' u cs) : RowIn W B ⟨k, u, cs⟩ := by
  obtain ⟨a, c, e, hc⟩ := h.cls
  refine ⟨a, c, e, hc, fun hp q off ea => ?_⟩
  have hq : u.ownBlock = some q := by
    obtain ⟨g, c', e', -⟩ := own_some h hp
    rw [e'] at e
    injection e with e1 e2 e3
    rw [ea] at e1
    injection e1 with e1
    injection e1 with e1 e4
    rw [e', e1]
    rfl
  exact .inr (own_block h hq)
/-- Rows in a slice of the call's own, laid at B or later; their cells lie below B0, or in blocks of cells. -/
structure OwnS (W : World) (B0 B : Nat) (v : Value) (L : List Rw) : Prop where
  row : OwnL 2 30 Rw.arr W B v L
  le : B0 ≤ B
  has : ∀ r ∈ L, RowIn W B0 r
theorem OwnS.nil (W : World) {B0 B : Nat} (h : B0 ≤ B) : OwnS W B0 B (.slice none 0 0) [] := ⟨OwnL.nil _ _ _, h, fun r hr => by cases hr⟩
theorem OwnS.kept {W W' : World} {B0 B : Nat} {v : Value} {L : List Rw} (h : OwnS W B0 B v L) (hb : Below W.heap.size W W') : OwnS W' B0 B v L := ⟨h.row.kept hb, h.le, fun r hr => (h.has r hr).kept hb⟩
theorem OwnS.mono {W : World} {B0 B B' : Nat} {v : Value} {L : List Rw} (h : OwnS W B0 B v L) (h1 : B0 ≤ B') (h2 : B' ≤ B) : OwnS W B0 B' v L := ⟨h.row.mono h2, h1, h.has⟩
theorem OwnS.lt {W : World} {B0 B : Nat} {v : Value} {L : List Rw} (h : OwnS W B0 B v L) : ∀ k, v.ownBlock = some k → B ≤ k ∧ k < W.heap.size := h.row.lt
theorem OwnS.push {W W' : World} {B0 B : Nat} {v v' : Value} {L : List Rw} {r : Rw} (h : OwnS W B0 B v L) (hr : RowIn W B0 r) (o : Obj) (hl : OwnL 2 30 Rw.arr W' B v' (L ++ [r])) (hg : (W.alloc o).grownBy W' v.ownBlock) : OwnS W' B0 B v' (L ++ [r]) := by
  refine ⟨hl, h.le, fun x hx => ?_⟩
  rcases List.mem_append.1 hx with hx | hx
  · exact (h.has x hx).turn h.row h.le o hg
  · rw [List.mem_singleton] at hx; subst hx; exact hr.turn h.row h.le o hg
theorem rw_mem {L : List Rw} {k : Nat} (h : k < L.length) : L.getD k Rw.zero ∈ L := by
  rw [List.getD_eq_getElem?_getD, List.getElem?_eq_getElem h]; exact List.getElem_mem h
/-- Rows that lie in memory, each with its cells. -/
def RwsIn (W : World) (B : Nat) (a : Option Addr) (m cap : Nat) (L : List Rw) : Prop := Ls 2 Rw.arr Rw.zero W a m cap L ∧ ∀ r ∈ L, RowIn W B r
theorem OwnS.ins {W : World} {B0 B : Nat} {v : Value} {L : List Rw} (h : OwnS W B0 B v L) : ∃ a cap, v = .slice a L.length cap ∧ RwsIn W B0 a L.length cap L := by
  obtain ⟨a, cap, ev, hl⟩ := h.row.ls (z := Rw.zero) rw_size
  exact ⟨a, cap, ev, hl, h.has⟩
theorem RwsIn.below {W W' : World} {B : Nat} {a : Option Addr} {m cap : Nat} {L : List Rw} (h : RwsIn W B a m cap L) (hb : Below W.heap.size W W') : RwsIn W' B a m cap L := ⟨h.1.below hb, fun r hr => (h.2 r hr).kept hb⟩
theorem RwsIn.mono {W : World} {B B' : Nat} {a : Option Addr} {m cap : Nat} {L : List Rw} (h : RwsIn W B a m cap L) (hB : B ≤ B') : RwsIn W B' a m cap L := ⟨h.1, fun r hr => (h.2 r hr).mono hB⟩
theorem RwsIn.all {W : World} {B : Nat} {a : Option Addr} {m cap : Nat} {L : List Rw} (h : RwsIn W B a m cap L) : RwsAt W a m cap L :=
  ⟨h.1, fun j hj => by
    obtain ⟨a', c, e, hc, -⟩ := (h.2 _ (rw_mem (k := j) (by have := h.1.len; omega))).has
    exact ⟨a', c, e, hc⟩⟩
theorem RwsAt.ins {W : World} {a : Option Addr} {m cap : Nat} {L : List Rw} (h : RwsAt W a m cap L) {B : Nat} (hB : W.heap.size ≤ B) : RwsIn W B a m cap L := by
  refine ⟨h.1, fun r hr => ?_⟩
  obtain ⟨j, hj, rfl⟩ := List.getElem_of_mem hr
  obtain ⟨a', c, e, hc⟩ := h.2 j (by have := h.1.len; omega)
  rw [List.getD_eq_getElem?_getD, List.getElem?_eq_getElem hj] at e hc
  refine ⟨a', c, e, hc, fun hp q off ea => .inl ?_⟩
  subst ea
  exact Nat.lt_of_lt_of_le (hc.lt hp) hB
theorem RwsIn.place {W : World} {B : Nat} {a : Option Addr} {m cap : Nat} {L : List Rw} (h : RwsIn W B a m cap L) {k : Nat} (hk : k < m) : ∃ b off a' n' c', a = some ⟨b, off, none⟩ ∧ (L.getD k Rw.zero).u = .slice a' n' c' ∧ n' = (L.getD k Rw.zero).cs.length ∧ Cls W a' n' c' (L.getD k Rw.zero).cs ∧ RowIn W B (L.getD k Rw.zero) ∧
    ∀ W', Below W.heap.size W W' → W'.cell? ⟨b, off + k * 2, none⟩ = some (.string (text (L.getD k Rw.zero).k)) ∧ W'.cell? ⟨b, off + k * 2 + 1, none⟩ = some (.slice a' n' c') := by
  obtain ⟨b, off, a', n', c', h1, h2, h3, h4, h5⟩ := h.all.place hk
  exact ⟨b, off, a', n', c', h1, h2, h3, h4, h.2 _ (rw_mem (by have := h.1.len; omega)), h5⟩
end Go.Proofs.Yteffbibmfpdenaa
end

section
namespace Go.Proofs.Yteffbibmfpdenaa
open Go.RowKit Go Go.Sort
set_option linter.unusedVariables false
set_option maxRecDepth 20000

theorem nans_c (u : ByteArray) (w : World) : Calls Try.prog 158 #[.string u] w (fun e w' => e = .returned (.bool false) ∧ w' = w) := by
  have hz : (u.toList == u.toList) = true := by simp
  go_enter Try.func158, Try.ntmps158
  go_wp2
  go_ret
  exact ⟨by first | rfl | simp, rfl⟩
theorem nani_c (u : Int) (w : World) : Calls Try.prog 159 #[.int .i64 u] w (fun e w' => e = .returned (.bool false) ∧ w' = w) := by
  go_enter Try.func159, Try.ntmps159
  go_wp2
  go_ret
  exact ⟨by first | rfl | simp, rfl⟩
def cmp3 (p q : Bool) : Int := if p = true then -1 else if q = true then 1 else 0
set_option maxHeartbeats 1600000 in
theorem cmps_c (u u' : ByteArray) (w : World) : Calls Try.prog 154 #[.string u, .string u'] w (fun e w' => e = .returned (.int .i64 (cmp3 (Op.bytesLess u.toList u'.toList) (!(u.toList == u'.toList)))) ∧ w' = w) := by
  have h1 := fun W => nans_c u W
  have h2 := fun W => nans_c u' W
  obtain ⟨p, hp⟩ : ∃ z, Op.bytesLess u.toList u'.toList = z := ⟨_, rfl⟩
  obtain ⟨q, hq⟩ : ∃ z, (u.toList == u'.toList) = z := ⟨_, rfl⟩
  rw [hp, hq]
  have HV := Lib.hid (show cmp3 p q = cmp3 p q from rfl)
  have H1 := Lib.hid h1
  have H2 := Lib.hid h2
  clear h1 h2
  cases p with
  | true =>
    go_enter Try.func154, Try.ntmps154
    go_upto_region 2 with (go_at_call 158; (with_reducible refine (H1.out _).mono ?_); rintro e9 w9 ⟨rfl, rfl⟩)
    go_wp2_with (go_at_call 158; (with_reducible refine (H2.out _).mono ?_); rintro e9 w9 ⟨rfl, rfl⟩)
    go_ret
    exact ⟨by rfl, rfl⟩
  | false =>
    cases q with
    | false =>
      go_enter Try.func154, Try.ntmps154
      go_upto_region 2 with (go_at_call 158; (with_reducible refine (H1.out _).mono ?_); rintro e9 w9 ⟨rfl, rfl⟩)
      go_wp2_with (go_at_call 158; (with_reducible refine (H2.out _).mono ?_); rintro e9 w9 ⟨rfl, rfl⟩)
      go_ret
      exact ⟨by rfl, rfl⟩
    | true =>
      go_enter Try.func154, Try.ntmps154
      go_upto_region 2 with (go_at_call 158; (with_reducible refine (H1.out _).mono ?_); rintro e9 w9 ⟨rfl, rfl⟩)
      go_wp2_with (go_at_call 158; (with_reducible refine (H2.out _).mono ?_); rintro e9 w9 ⟨rfl, rfl⟩)
      go_ret
      exact ⟨by rfl, rfl⟩
set_option maxHeartbeats 1600000 in
theorem cmpi_c (u u' : Int) (w : World) : Calls Try.prog 155 #[.int .i64 u, .int .i64 u'] w (fun e w' => e = .returned (.int .i64 (cmp3 (decide (u < u')) (decide (u' < u)))) ∧ w' = w) := by
  have H1 := Lib.hid (fun W => nani_c u W)
  have H2 := Lib.hid (fun W => nani_c u' W)
  by_cases hp : u < u'
  · have HV := Lib.hid (show cmp3 (decide (u < u')) (decide (u' < u)) = -1 by simp [cmp3, hp])
    go_enter Try.func155, Try.ntmps155
    go_upto_region 2 with (go_at_call 159; (with_reducible refine (H1.out _).mono ?_); rintro e9 w9 ⟨rfl, rfl⟩)
    go_wp2_with (go_at_call 159; (with_reducible refine (H2.out _).mono ?_); rintro e9 w9 ⟨rfl, rfl⟩)
    go_ret
    exact ⟨by rw [HV.out]; rfl, rfl⟩
  · by_cases hq : u' < u
    · have HV := Lib.hid (show cmp3 (decide (u < u')) (decide (u' < u)) = 1 by simp [cmp3, hp, hq])
      go_enter Try.func155, Try.ntmps155
      go_upto_region 2 with (go_at_call 159; (with_reducible refine (H1.out _).mono ?_); rintro e9 w9 ⟨rfl, rfl⟩)
      go_wp2_with (go_at_call 159; (with_reducible refine (H2.out _).mono ?_); rintro e9 w9 ⟨rfl, rfl⟩)
      go_ret
      exact ⟨by rw [HV.out]; rfl, rfl⟩
    · have HV := Lib.hid (show cmp3 (decide (u < u')) (decide (u' < u)) = 0 by simp [cmp3, hp, hq])
      go_enter Try.func155, Try.ntmps155
      go_upto_region 2 with (go_at_call 159; (with_reducible refine (H1.out _).mono ?_); rintro e9 w9 ⟨rfl, rfl⟩)
      go_wp2_with (go_at_call 159; (with_reducible refine (H2.out _).mono ?_); rintro e9 w9 ⟨rfl, rfl⟩)
      go_ret
      exact ⟨by rw [HV.out]; rfl, rfl⟩
/-- Two ints of a call's own. -/
def Ints2 (x y : Int) (v : Value) (w : World) : Prop := ∃ q e, v = .slice (some ⟨q, 0, none⟩) 2 2 ∧ w.heap[q]? = some (.cells #[.int .i64 x, .int .i64 y] e (0, 0))
theorem Ints2.kept {x y : Int} {v : Value} {w w' : World} (h : Ints2 x y v w) (hb : Below w.heap.size w w') : Ints2 x y v w' := by
  obtain ⟨q, e, rfl, hq⟩ := h
  exact ⟨q, e, rfl, heap_below hq hb⟩
def or2 (x y : Int) : Int := if x = 0 then y else x
set_option maxHeartbeats 1600000 in
theorem cmpor_c (x y : Int) (v : Value) {w : World} (h : Ints2 x y v w) : Calls Try.prog 153 #[v] w (fun e w' => e = .returned (.int .i64 (or2 x y)) ∧ w' = w) := by
  obtain ⟨q, e, rfl, hq⟩ := h
  have c0 : w.cell? ⟨q, 0, none⟩ = some (.int .i64 x) := by rw [cell_of_row _ q _ _ _ (0, 0) hq]; rfl
  have c1 : w.cell? ⟨q, 1, none⟩ = some (.int .i64 y) := by rw [cell_of_row _ q _ _ _ (0, 0) hq]; rfl
  clear hq
  by_cases hx : x = 0
  · have HV := Lib.hid (show or2 x y = y by simp [or2, hx])
    by_cases hy : y = 0
    · subst hx hy
      go_enter Try.func153, Try.ntmps153
      go_wp2
      refine wp_loop_rounds 3 ?_
      rw [rounds_succ]
      go_wp2
      rw [rounds_succ]
      go_wp2
      rw [rounds_succ]
      go_wp2
      go_ret
      exact ⟨by rw [HV.out]; rfl, rfl⟩
    · subst hx
      go_enter Try.func153, Try.ntmps153
      go_wp2
      refine wp_loop_rounds 3 ?_
      rw [rounds_succ]
      go_wp2
      rw [rounds_succ]
      go_wp2
      go_ret
      exact ⟨by rw [HV.out]; rfl, rfl⟩
  · have HV := Lib.hid (show or2 x y = x by simp [or2, hx])
    go_enter Try.func153, Try.ntmps153
    go_wp2
    refine wp_loop_rounds 3 ?_
    rw [rounds_succ]
    go_wp2
    go_ret
    exact ⟨by rw [HV.out]; rfl, rfl⟩
end Go.Proofs.Yteffbibmfpdenaa
end

section
namespace Go.Proofs.Yteffbibmfpdenaa
open Go.RowKit Go Go.Sort
set_option linter.unusedVariables false
set_option maxRecDepth 20000

/-- A write's place. -/
def Wr.pl (c : Wr) : List UInt8 × Int := (c.k, c.i)
theorem strictW : Strict (lexR Op.bytesLess ltI) := strictT.lex strictI
theorem ahead_lex (a b : Wr) : aheadS a b = lexR Op.bytesLess ltI a.pl b.pl := by
  unfold aheadS lexR ltI Wr.pl
  by_cases h : a.k = b.k
  · rw [if_neg (by simp [h]), if_pos h]
  · rw [if_pos (by simp [h]), if_neg h]
theorem ahead_tr {a b c : Wr} (h1 : aheadS a b = true) (h2 : aheadS b c = true) : aheadS a c = true := by
  rw [ahead_lex] at *; exact strictW.tr _ _ _ h1 h2
theorem ahead_pl {a b : Wr} (h : a.pl = b.pl) : aheadS a b = false := by rw [ahead_lex, h]; exact strictW.irr _
end Go.Proofs.Yteffbibmfpdenaa
end

section
namespace Go.Proofs.Yteffbibmfpdenaa
open Go.RowKit Go Go.Sort
set_option linter.unusedVariables false
set_option maxRecDepth 20000

/-- What order tells. -/
def ordS (a b : Wr) : Int := cmp3 (aheadS a b) (aheadS b a)
theorem ord_geq (a b : Wr) : decide (ordS a b ≥ 0) = !aheadS a b := by
  unfold ordS cmp3
  cases aheadS a b <;> cases aheadS b a <;> rfl
theorem ord_or (a b : Wr) : or2 (cmp3 (Op.bytesLess a.k b.k) (!(a.k == b.k))) (cmp3 (decide (a.i < b.i)) (decide (b.i < a.i))) = ordS a b := by
  have S : Strict Op.bytesLess := strictT
  unfold ordS aheadS or2
  by_cases h : a.k = b.k
  · rw [h, S.irr]
    simp [cmp3]
  · have h1 : (a.k == b.k) = false := by simpa using h
    have h2 : (b.k == a.k) = false := by simpa using fun e => h e.symm
    rw [h1, h2]
    simp only [if_true]
    cases ha : Op.bytesLess a.k b.k with
    | true => simp [cmp3]
    | false =>
      cases hb : Op.bytesLess b.k a.k with
      | true => simp [cmp3]
      | false => exact absurd (S.tot _ _ ha hb) h
theorem wr_cells' {W : World} {q : Nat} {k v : ByteArray} {i : Int} {g : Bool} (h : W.heap[q]? = some (.cells #[.string k, .int .i64 i, .bool g, .string v] 112 (0, 0))) : W.cell? ⟨q, 0, none⟩ = some (.string k) ∧ W.cell? ⟨q, 1, none⟩ = some (.int .i64 i) ∧ W.cell? ⟨q, 2, none⟩ = some (.bool g) ∧ W.cell? ⟨q, 3, none⟩ = some (.string v) := by
  refine ⟨?_,?_,?_,?_⟩ <;> (rw [cell_of_row _ q _ _ _ (0, 0) h]; rfl)
set_option maxHeartbeats 3200000 in
theorem order_c (k : List UInt8) (i : Int) (g : Bool) (v : List UInt8) (k' : List UInt8) (i' : Int) (g' : Bool) (v' : List UInt8) (w : World) : Calls Try.prog 145 #[.agg #[.string (text k), .int .i64 i, .bool g, .string (text v)], .agg #[.string (text k'), .int .i64 i', .bool g', .string (text v')]] w (Tells (.int .i64 (ordS ⟨k, i, g, v⟩ ⟨k', i', g', v'⟩)) w) := by
  have hp := heap_below (heap_alloc_new w (.cells #[.string (text k), .int .i64 i, .bool g, .string (text v)] 112)) (alloc_below (w.alloc (.cells #[.string (text k), .int .i64 i, .bool g, .string (text v)] 112)) (.cells #[.string (text k'), .int .i64 i', .bool g', .string (text v')] 112))
  have hq := heap_alloc_new (w.alloc (.cells #[.string (text k), .int .i64 i, .bool g, .string (text v)] 112)) (.cells #[.string (text k'), .int .i64 i', .bool g', .string (text v')] 112)
  simp only [World.size_alloc] at hq
  have HB := Lib.hid ((alloc_below w (.cells #[.string (text k), .int .i64 i, .bool g, .string (text v)] 112)).alloc (by simp) (.cells #[.string (text k'), .int .i64 i', .bool g', .string (text v')] 112))
  have HR := Lib.hid (ord_or ⟨k, i, g, v⟩ ⟨k', i', g', v'⟩)
  have h1 := fun W => cmps_c (text k) (text k') W
  have h2 := fun W => cmpi_c i i' W
  simp only [text_toList] at h1 HR
  obtain ⟨X1, hX1⟩ : ∃ z, cmp3 (Op.bytesLess k k') (!(k == k')) = z := ⟨_, rfl⟩
  obtain ⟨X2, hX2⟩ : ∃ z, cmp3 (decide (i < i')) (decide (i' < i)) = z := ⟨_, rfl⟩
  rw [hX1, hX2] at HR
  simp only [hX1] at h1
  simp only [hX2] at h2
  have h3 := fun (v : Value) (W : World) (h : Ints2 X1 X2 v W) => cmpor_c X1 X2 v h
  obtain ⟨R, hR⟩ : ∃ z, or2 X1 X2 = z := ⟨_, rfl⟩
  simp only [hR] at h3 HR
  obtain ⟨u, hu⟩ : ∃ u, text k = u := ⟨_, rfl⟩
  obtain ⟨u', hu'⟩ : ∃ u, text k' = u := ⟨_, rfl⟩
  simp only [hu, hu'] at h1 hp hq HB ⊢
  have H1 := Lib.hid h1
  have H2 := Lib.hid h2
  have HOR := Lib.hid h3
  have HA0 := Lib.hid (fun W (h : Below (w.heap.size + 1 + 1) ((w.alloc (.cells #[.string u, .int .i64 i, .bool g, .string (text v)] 112)).alloc (.cells #[.string u', .int .i64 i', .bool g', .string (text v')] 112)) W) => (heap_below hp (by simpa using h)))
  have HC0 := Lib.hid (fun W (h : Below (w.heap.size + 1 + 1) ((w.alloc (.cells #[.string u, .int .i64 i, .bool g, .string (text v)] 112)).alloc (.cells #[.string u', .int .i64 i', .bool g', .string (text v')] 112)) W) => (heap_below hq (by simpa using h)))
  clear hp hq h1 h2 h3 hX1 hX2 hR hu hu'
  go_enter Try.func145, Try.ntmps145
  go_upto_region 1 with (fail)
  obtain ⟨B, hB⟩ : ∃ q, w.heap.size = q := ⟨_, rfl⟩
  have HW1 : ((w.alloc (.cells #[.string u, .int .i64 i, .bool g, .string (text v)] 112)).alloc (.cells #[.string u', .int .i64 i', .bool g', .string (text v')] 112)).heap.size = B + 1 + 1 := by simp [hB]
  have HBe := Lib.hid hB
  rw [hB] at HA0 HC0 ⊢
  clear hB
  generalize (w.alloc (.cells #[.string u, .int .i64 i, .bool g, .string (text v)] 112)).alloc (.cells #[.string u', .int .i64 i', .bool g', .string (text v')] 112) = W1 at *
  have HA := Lib.hid (fun W (h : Below W1.heap.size W1 W) => by
    obtain ⟨c0, c1, -⟩ := wr_cells' (HA0.out W (by rwa [HW1] at h))
    exact And.intro c0 c1)
  have HC := Lib.hid (fun W (h : Below W1.heap.size W1 W) => by
    obtain ⟨c0, c1, -⟩ := wr_cells' (HC0.out W (by rwa [HW1] at h))
    exact And.intro c0 c1)
  clear HA0 HC0 HW1
  refine wp_region_flow [none,none,none,none, some 12, some 0, some 1, some 2, some 3, some 4, some 5, some 6, some 7, some 8, some 9, some 10, some 11] (fun i => [undef,undef,undef,undef,undef,undef,undef,undef,undef,undef,undef,undef, .int .i64 0].getD i undef) [(fun v _ => v = .pointer (some ⟨B, 0, none⟩)), (fun v _ => v = .string u), (fun v _ => v = .pointer (some ⟨B + 1, 0, none⟩)), (fun v _ => v = .string u'), (fun v _ => v = .int .i64 X1), (fun v _ => v = .pointer (some ⟨B, 1, none⟩)), (fun v _ => v = .int .i64 i), (fun v _ => v = .pointer (some ⟨B + 1, 1, none⟩)), (fun v _ => v = .int .i64 i'), (fun v _ => v = .int .i64 X2), (Ints2 X1 X2), (fun v _ => v = .int .i64 R), (fun v _ => v = .int .i64 R)] (by kernel_rfl) (by kernel_rfl) rfl rfl rfl ?_ ?_ ?_
  · intro g hg v X Y hX hY hv
    simp only [List.mem_cons, List.not_mem_nil, or_false] at hg
    rcases hg with rfl | rfl | rfl | rfl | rfl | rfl | rfl | rfl | rfl | rfl | rfl | rfl | rfl
    all_goals first
      | exact hv
      | exact hv.kept hY
  · simp only [flowOps, and_true]
    refine ⟨?_,?_,?_,?_,?_,?_,?_,?_,?_,?_,?_,?_,?_⟩
    · intro xs W hW hn
      simp only [flowAct, zwc, zwn]
      go_wp2_with (fail)
      exact ⟨rfl, _, rfl, Below.refl _ _, rfl⟩
    · intro xs W hW hn
      have hc := HA.out W hW
      obtain ⟨c0, c1⟩ := hc
      simp [flowNeeds, Region.binds] at hn
      simp only [flowAct, zwc, zwn]
      try simp only [hn]
      go_wp2_with (fail)
      exact ⟨rfl, _, rfl, Below.refl _ _, rfl⟩
    · intro xs W hW hn
      simp only [flowAct, zwc, zwn]
      go_wp2_with (fail)
      exact ⟨rfl, _, rfl, Below.refl _ _, rfl⟩
    · intro xs W hW hn
      have hc := HC.out W hW
      obtain ⟨c0, c1⟩ := hc
      simp [flowNeeds, Region.binds] at hn
      simp only [flowAct, zwc, zwn]
      try simp only [hn]
      go_wp2_with (fail)
      exact ⟨rfl, _, rfl, Below.refl _ _, rfl⟩
    · intro xs W hW hn
      simp [flowNeeds, Region.binds] at hn
      simp only [flowAct, zwc, zwn]
      try simp only [hn]
      go_wp2_with (go_at_call 154; (with_reducible refine (H1.out _).mono ?_); rintro e9 w9 ⟨rfl, rfl⟩)
      exact ⟨rfl, _, rfl, Below.refl _ _, rfl⟩
    · intro xs W hW hn
      simp only [flowAct, zwc, zwn]
      go_wp2_with (fail)
      exact ⟨rfl, _, rfl, Below.refl _ _, rfl⟩
    · intro xs W hW hn
      have hc := HA.out W hW
      obtain ⟨c0, c1⟩ := hc
      simp [flowNeeds, Region.binds] at hn
      simp only [flowAct, zwc, zwn]
      try simp only [hn]
      go_wp2_with (fail)
      exact ⟨rfl, _, rfl, Below.refl _ _, rfl⟩
    · intro xs W hW hn
      simp only [flowAct, zwc, zwn]
      go_wp2_with (fail)
      exact ⟨rfl, _, rfl, Below.refl _ _, rfl⟩
    · intro xs W hW hn
      have hc := HC.out W hW
      obtain ⟨c0, c1⟩ := hc
      simp [flowNeeds, Region.binds] at hn
      simp only [flowAct, zwc, zwn]
      try simp only [hn]
      go_wp2_with (fail)
      exact ⟨rfl, _, rfl, Below.refl _ _, rfl⟩
    · intro xs W hW hn
      simp [flowNeeds, Region.binds] at hn
      simp only [flowAct, zwc, zwn]
      try simp only [hn]
      go_wp2_with (go_at_call 155; (with_reducible refine (H2.out _).mono ?_); rintro e9 w9 ⟨rfl, rfl⟩)
      exact ⟨rfl, _, rfl, Below.refl _ _, rfl⟩
    · intro xs W hW hn
      simp [flowNeeds, Region.binds] at hn
      simp only [flowAct, zwc, zwn]
      try simp only [hn]
      go_wp2_with (fail)
      exact ⟨rfl, _, rfl, alloc_below _ _, ⟨_, _, rfl, heap_alloc_new _ _⟩⟩
    · intro xs W hW hn
      simp [flowNeeds, Region.binds] at hn
      obtain ⟨hv9, h9⟩ := hn
      simp only [flowAct, zwc, zwn]
      try simp only [h9]
      go_wp2_with (go_at_call 153; (with_reducible refine (HOR.out _ _ hv9).mono ?_); rintro e9 w9 ⟨rfl, rfl⟩)
      exact ⟨rfl, _, rfl, Below.refl _ _, rfl⟩
    · intro xs W hW hn
      simp [flowNeeds, Region.binds] at hn
      simp only [flowAct, zwc, zwn]
      try simp only [hn]
      go_wp2_with (fail)
      exact ⟨rfl, _, rfl, Below.refl _ _, rfl⟩
  · intro xs W hW hall
    simp only [flowAll, and_true, Nat.zero_add, Nat.reduceAdd] at hall
    obtain ⟨-,-,-,-,-,-,-,-,-,-,-,-, e12⟩ := hall
    simp only [flowAct, zwc, zwn]
    simp only [e12]
    go_wp2
    go_ret
    exact ⟨by rw [HR.out]; rfl, HB.out.trans (hW.mono HB.out.size)⟩
theorem keyS_dec (k : List UInt8) : decide (keyS k = 0) = (!(k == []) && decide (k.length ≤ 32)) := by
  unfold keyS
  by_cases h : k = []
  · subst h; rfl
  · have hb : (k == []) = false := by simpa using h
    rw [if_neg h, hb]
    by_cases h2 : 32 < k.length
    · rw [if_pos h2]; simp; omega
    · rw [if_neg h2]; simp; omega
set_option maxHeartbeats 3200000 in
theorem cgoodwrite_c (n1 : Nat) (k : List UInt8) (i : Int) (g : Bool) (v : List UInt8) (hk : k.length ≤ 9223372036854775807) (hvl : v.length ≤ 9223372036854775807) (w : World) :
    Calls Try.prog 144 #[.int .i64 (n1 : Int), .agg #[.string (text k), .int .i64 i, .bool g, .string (text v)]] w (Tells (.bool (mayS n1 ⟨k, i, g, v⟩)) w) := by
  have hp := heap_alloc_new w (.cells #[.string (text k), .int .i64 i, .bool g, .string (text v)] 112)
  have HB := Lib.hid (alloc_below w (.cells #[.string (text k), .int .i64 i, .bool g, .string (text v)] 112))
  have HV0 := Lib.hid (show mayS n1 ⟨k, i, g, v⟩ = (decide (keyS k = 0) && (decide (0 ≤ i) && (decide (i < (n1 : Int)) && (decide (v.length ≤ 64) && (!g || v == []))))) from rfl)
  rw [keyS_dec] at HV0
  obtain ⟨r, hr⟩ : ∃ r, mayS n1 ⟨k, i, g, v⟩ = r := ⟨_, rfl⟩
  rw [hr] at HV0 ⊢
  have htn := text_nilb v
  have htk := text_nilb k
  have hsz : ((text v).size : Int) = (v.length : Int) := by rw [text_size]
  have hsk : ((text k).size : Int) = (k.length : Int) := by rw [text_size]
  have HVB := Lib.hid (show (v == []) = true → v.length = 0 from fun h => by
    have : v = [] := by simpa using h
    rw [this]
    rfl)
  obtain ⟨p0, p1, p2, p3⟩ := wr_cells hp
  obtain ⟨vb, hvb⟩ : ∃ z, (v == []) = z := ⟨_, rfl⟩
  obtain ⟨vl, hvl2⟩ : ∃ z, v.length = z := ⟨_, rfl⟩
  obtain ⟨kb, hkb⟩ : ∃ z, (k == []) = z := ⟨_, rfl⟩
  obtain ⟨kl, hkl2⟩ : ∃ z, k.length = z := ⟨_, rfl⟩
  obtain ⟨tv, htv⟩ : ∃ z, text v = z := ⟨_, rfl⟩
  obtain ⟨tx, htx⟩ : ∃ z, text k = z := ⟨_, rfl⟩
  rw [hvb, hvl2, hkb, hkl2] at HV0
  rw [hvb, hvl2] at HVB
  rw [hvb] at htn
  rw [hkb] at htk
  rw [hvl2] at hsz
  rw [hkl2] at hsk
  simp only [htv, htx] at htn htk hsz hsk p0 p1 p2 p3 HB ⊢
  clear hp hr hvb hvl2 htv htx hk hvl hkb hkl2
  by_cases h0 : kb = true
  · subst h0
    have HV := Lib.hid (show r = false by rw [HV0.out]; simp)
    clear HV0
    go_enter Try.func144, Try.ntmps144
    go_wp2
    go_ret
    exact ⟨by rw [HV.out]; rfl, HB.out⟩
  · have h0 : kb = false := by simpa using h0
    subst h0
    by_cases h1 : kl ≤ 32
    · have h1i : ¬ (32 : Int) < (kl : Int) := by omega
      by_cases h2 : i < 0
      · have HV := Lib.hid (show r = false by rw [HV0.out]; simp; omega)
        clear HV0
        go_enter Try.func144, Try.ntmps144
        go_wp2
        go_ret
        exact ⟨by rw [HV.out]; rfl, HB.out⟩
      · by_cases h3 : (n1 : Int) ≤ i
        · have HV := Lib.hid (show r = false by rw [HV0.out]; simp; omega)
          clear HV0
          go_enter Try.func144, Try.ntmps144
          go_wp2
          go_ret
          exact ⟨by rw [HV.out]; rfl, HB.out⟩
        · have h2' : 0 ≤ i := by omega
          have h3' : i < (n1 : Int) := by omega
          cases g with
          | true =>
            cases vb with
            | true =>
              have hv0 := HVB.out rfl
              have HV := Lib.hid (show r = true by rw [HV0.out]; simp [h1, h2', h3', hv0])
              clear HV0 h2' h3' hv0
              go_enter Try.func144, Try.ntmps144
              go_wp2
              go_ret
              exact ⟨by rw [HV.out]; rfl, HB.out⟩
            | false =>
              have HV := Lib.hid (show r = false by rw [HV0.out]; simp)
              clear HV0 h2' h3'
              go_enter Try.func144, Try.ntmps144
              go_wp2
              go_ret
              exact ⟨by rw [HV.out]; rfl, HB.out⟩
          | false =>
            by_cases h4 : vl ≤ 64
            · have h4i : (vl : Int) ≤ 64 := by omega
              have HV := Lib.hid (show r = true by rw [HV0.out]; simp [h1, h2', h3', h4])
              clear HV0 h2' h3'
              go_enter Try.func144, Try.ntmps144
              go_wp2
              go_ret
              exact ⟨by rw [HV.out]; rfl, HB.out⟩
            · have h4i : ¬ (vl : Int) ≤ 64 := by omega
              have HV := Lib.hid (show r = false by rw [HV0.out]; simp [h4])
              clear HV0 h2' h3'
              go_enter Try.func144, Try.ntmps144
              go_wp2
              go_ret
              exact ⟨by rw [HV.out]; rfl, HB.out⟩
    · have h1i : (32 : Int) < (kl : Int) := by omega
      have HV := Lib.hid (show r = false by rw [HV0.out]; simp [h1])
      clear HV0
      go_enter Try.func144, Try.ntmps144
      go_wp2
      go_ret
      exact ⟨by rw [HV.out]; rfl, HB.out⟩
end Go.Proofs.Yteffbibmfpdenaa
end

