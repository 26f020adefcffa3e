/-
  Merged: BA.
-/
import Derived.Deep.QuietTactic
import Derived.StillTail
import Derived.Lib.QuietBelow
import Derived.Test.YtidbjmkfmfojdaaRows
import Derived.WalkKit
import Derived.Lib.Hide
import Derived.BigQuiet
import Derived.BigRegion
import Derived.Deep.Cut
import Derived.Deep.MidRow
import Derived.Great.BuildSlice
import Derived.Outline
import Derived.OwnWalk
import Derived.Laws.Rows
import Derived.ChangeKeysEq
import Derived.Laws.StructEq
import Derived.WalkSpells
import Derived.WalkLawsBesides
import Derived.Laws.CopyOwn
import Derived.WalkSmall
import Derived.Lib.LaidTab
import Derived.Deep.RegionWith
import Derived.Lib.MinMax
import Derived.WideShapes
import Derived.ChangeSame
import Derived.OpenShut
import Derived.Deep.Slices
import Derived.Deep.AppendSrc
import Derived.Lib.AppendZerosOnto
import Derived.Lib.SliceRun
import Derived.Lib.Walk
import Derived.Lib.OthersKept
import Derived.Laws.RangeAny
import Derived.Maps.OwnOps
import Derived.Maps.Views
import Derived.ChangeSlices
import Derived.ChangeArms
import Derived.Deep.DeepAppendWide
import Derived.OrdersIn
import Derived.TacticsIn
import Derived.RangeFuncNested
import Derived.RangeFuncBound
import Derived.RangeFuncCalls
import Derived.RangeFuncLeaves
import Derived.Maps.AppendAt
import Derived.Shelf.Abstract
import Derived.OwnWalkIn
import Derived.TacticsInMore
import Derived.LoopNIn
import Derived.LoopIn
import Derived.Test.YtidbjmkfmfojdaaSK5

section
namespace Go.Proofs.Ytidbjmkfmfojdaa
open Go.RowKit Go Go.Sort
set_option linter.unusedVariables false
set_option maxRecDepth 20000

/-- Several lists of rows, one behind the other in memory. -/
def RlAt (W : World) (b off n : Nat) (F : Nat → Option Addr × Nat × Nat × List Rw) : Prop := ∀ j, j < n → W.cell? ⟨b, off + j, none⟩ = some (.slice (F j).1 (F j).2.1 (F j).2.2.1) ∧ RwsAt W (F j).1 (F j).2.1 (F j).2.2.1 (F j).2.2.2 ∧ RShort (F j).2.2.2
/-- What Light lets through of a list of rows. -/
def LightR (z : Option Addr × Nat × Nat × List Rw) : Prop := z.2.1 ≤ 600 ∧ ∀ r ∈ z.2.2.2, r.cs.length ≤ 600
theorem satM_keeps {n k lo : Nat} {PP : Prop} (h : n ≤ 6000 → PP ∧ lo ≤ n) : satM n k ≤ 6000 → PP ∧ lo ≤ satM n k := fun h1 => by
  obtain ⟨e, h2⟩ := satM_fits h1
  have h3 := h (by omega)
  exact ⟨h3.1, by have := h3.2; omega⟩
set_option maxRecDepth 100000 in
set_option maxHeartbeats 6400000 in
theorem mlightr_c {w : World} {x a : Option Addr} {n1 cap m cp : Nat} {L : List Cg} (hn1 : n1 ≤ 9223372036854775807) (hl : ChsAt w a m cp L) {br offr nr cr : Nat} {F : Nat → Option Addr × Nat × Nat × List Rw} (hnr : nr ≤ cr) (hcr : cr ≤ 9223372036854775807) (hF : RlAt w br offr nr F) :
    Calls Try.prog 29 #[.slice x n1 cap, .slice a m cp, .slice (some ⟨br, offr, none⟩) nr cr] w (fun e w' => ∃ b : Bool, e = .returned (.bool b) ∧ (b = true → m ≤ 600 ∧ ∀ i, i < nr → LightR (F i)) ∧ Below w.heap.size w w') := by
  have hle2 := hl.1.le
  have hmax2 := hl.1.max
  have HL := Lib.hid hl
  have HF := Lib.hid hF
  clear hF
  have HAF := Lib.hid (fun W => show Calls Try.prog 27 #[.int .i64 0, .int .i64 (n1 : Int), .int .i64 6000] W _ from radd6_c 0 n1 (by omega) hn1 W)
  clear hl
  go_enter Try.func29, Try.ntmps29
  go_upto_region 3 with (go_at_call 27; (with_reducible refine (HAF.out _).mono ?_); rintro e9 w9 ⟨rfl, rfl⟩)
  go_loopw [7, 8] (fun v i9 wr => ∃ (i q : Nat), i ≤ m ∧ i9 = .int .i64 (i : Int) ∧ v = .int .i64 (q : Int) ∧ q ≤ 6001 ∧ (q ≤ 6000 → 10 * i ≤ q) ∧ Below w.heap.size w wr) (fun _ i9 _ => m - (intOf i9).toNat)
  case atStart => exact ⟨0, satM 0 n1, by omega, rfl, rfl, satM_le _ _, fun _ => by omega, Below.refl _ _⟩
  case round =>
    clear HAF
    obtain ⟨i, q, hi, rfl, rfl, hq, hlo, hB⟩ := hrel
    have HB := Lib.hid hB
    have HLO := Lib.hid hlo
    clear hB hlo
    by_cases him : i < m
    · have hii : (i : Int) < (m : Int) := by omega
      have hic : (i : Int) < (cp : Int) := by omega
      by_cases hf : 6000 < q
      · have hfi : ¬ (q : Int) ≤ 6000 := by omega
        go_wp2
        go_loopw [7, 69] (fun v9 j9 wz => ∃ (j q : Nat), j ≤ nr ∧ j9 = .int .i64 (j : Int) ∧ v9 = .int .i64 (q : Int) ∧ q ≤ 6001 ∧ (q ≤ 6000 → m ≤ 600 ∧ ∀ i, i < j → LightR (F i)) ∧ Below w.heap.size w wz) (fun _ j9 _ => nr - (intOf j9).toNat)
        case atStart => exact ⟨0, q, by omega, rfl, rfl, hq, fun h => ⟨by have := HLO.out h; omega, fun i hi => by omega⟩, HB.out⟩
        case round =>
          clear HLO HB hq hf hfi
          obtain ⟨j, q1, hj, rfl, rfl, hq1, hlo, hB⟩ := hrel
          have HB := Lib.hid hB
          have HLO := Lib.hid hlo
          by_cases hjn : j < nr
          · have hji : (j : Int) < (nr : Int) := by omega
            have hjc : (j : Int) < (cr : Int) := by omega
            obtain ⟨hce, hrw, hsh⟩ := HF.out j hjn
            obtain ⟨⟨ax, mx, cx, LX⟩, hFj⟩ : ∃ z, F j = z := ⟨_, rfl⟩
            rw [hFj] at hce hrw hsh
            simp only at hce hrw hsh
            have hcell := (hB.cell (World.block_lt_of_cell? w _ hce)).trans hce
            have HFJ := Lib.hid hFj
            have HRW := Lib.hid hrw
            have HRS := Lib.hid hsh
            have hmxl := hrw.1.le
            have hmxm := hrw.1.max
            obtain ⟨PP, hPP⟩ : ∃ z : Prop, (m ≤ 600 ∧ ∀ i, i < j → LightR (F i)) = z := ⟨_, rfl⟩
            have HPP := Lib.hid hPP
            rw [hPP] at HLO
            clear hce hrw hsh hFj hPP hB hlo
            go_upto_region 14 with (fail)
            clear hcell
            go_loopw [7, 12] (fun v j9 wz => ∃ (i q : Nat), i ≤ mx ∧ j9 = .int .i64 (i : Int) ∧ v = .int .i64 (q : Int) ∧ q ≤ 6001 ∧ (q ≤ 6000 → (PP ∧ ∀ i', i' < i → (LX.getD i' Rw.zero).cs.length ≤ 600) ∧ 10 * i ≤ q) ∧ Below w.heap.size w wz) (fun _ j9 _ => mx - (intOf j9).toNat)
            case atStart => exact ⟨0, q1, by omega, rfl, rfl, hq1, fun h => ⟨⟨HLO.out h, fun i' hi' => by omega⟩, by omega⟩, HB.out⟩
            case round =>
              clear HLO HB hq1
              obtain ⟨i, q2, hi, rfl, rfl, hq2, hlo, hB⟩ := hrel
              have HB := Lib.hid hB
              have HLO := Lib.hid hlo
              clear hB hlo
              by_cases him : i < mx
              · have hii : (i : Int) < (mx : Int) := by omega
                have hic : (i : Int) < (cx : Int) := by omega
                by_cases hf : 6000 < q2
                · have hfi : ¬ (q2 : Int) ≤ 6000 := by omega
                  go_wp2
                  go_roundw
                  case rel => exact ⟨j + 1, q2, by omega, by go_num, rfl, hq2, fun h => absurd h (by omega), HB.out⟩
                  case measure => simp [intOf]; omega
                · have hfi : (q2 : Int) ≤ 6000 := by omega
                  obtain ⟨bx, offx, ac, nc, cc, rfl, hu, hnc, hca, hatx⟩ := HRW.out.place him
                  have HNC := Lib.hid hnc.symm
                  obtain ⟨PI, hPI⟩ : ∃ z : Prop, (PP ∧ ∀ i', i' < i → (LX.getD i' Rw.zero).cs.length ≤ 600) = z := ⟨_, rfl⟩
                  have HPI := Lib.hid hPI
                  rw [hPI] at HLO
                  clear hPI
                  have hmem : LX.getD i Rw.zero ∈ LX := by rw [List.getD_eq_getElem?_getD, List.getElem?_eq_getElem (by rw [HRW.out.1.len]; exact him)]; exact List.getElem_mem _
                  have hkx := HRS.out _ hmem
                  obtain ⟨y, hy⟩ : ∃ y, LX.getD i Rw.zero = y := ⟨_, rfl⟩
                  rw [hy] at hatx hkx hca hnc
                  obtain ⟨kx, ux, csx⟩ := y
                  simp only at hatx hkx hca hnc
                  have hncl := hca.le
                  have hncm := hca.max
                  have HTS := Lib.hid hkx.2
                  have HCA := Lib.hid hca
                  have HXA := Lib.hid hatx
                  have HXW := Lib.hid (fun W (h : Below wr.heap.size wr W) => hatx W (HB.out.trans (h.mono HB.out.size)))
                  have HSZ := Lib.hid (show ((text kx).size : Int) = (kx.length : Int) by rw [text_size])
                  have HA0 := Lib.hid (fun W => show Calls Try.prog 27 #[.int .i64 (q2 : Int), .int .i64 10, .int .i64 6000] W _ from radd6_c q2 10 hq2 (by omega) W)
                  have HA2 := Lib.hid (fun W => radd6_c (satM q2 10) kx.length (satM_le _ _) hkx.1 W)
                  have HST := Lib.hid (satM_keeps (k := kx.length) (show satM q2 10 ≤ 6000 → PI ∧ 10 * (i + 1) ≤ satM q2 10 from fun h1 => by
                    obtain ⟨e, h2⟩ := satM_fits h1
                    have h3 := HLO.out (by omega)
                    exact ⟨h3.1, by have := h3.2; omega⟩))
                  clear hu hnc hca hatx hmem hkx hy
                  go_upto_region 16 with (fail)
                  refine wp_region_flow_tail 8 [none,none,none,none,none,none,none,none,none,none,none,none,none,none,none,none,none,none,none,none,none,none,none,none,none,none,none,none,none,none,none,none,none,none,none,none,none,none,none,none,none,none,none,none,none,none,none,none,none,none,none,none,none,none,none,none,none,none,none,none,none,none,none,none,none,none,none,none,none,none,none,none,none,none,none,none,none,none,none,none,none,none,none, some 0, some 1, some 2, some 3, some 4, some 5, some 6, some 7, none,none,none,none,none,none,none,none,none,none,none,none,none,none,none,none,none,none,none,none,none,none,none,none,none,none,none,none,none,none,none] (fun i => [u83, u84, u85, u86, u87, u88, u89, u90].getD i undef) [(fun v _ => v = .int .i64 (q2 : Int)), (fun v _ => v = .int .i64 ((satM q2 10 : Nat) : Int)), (fun v _ => v = .slice (some ⟨bx, offx, none⟩) mx cx), (fun v _ => v = .int .i64 (i : Int)), (fun v _ => v = .pointer (some ⟨bx, offx + i * 2, none⟩)), (fun v _ => v = .pointer (some ⟨bx, offx + i * 2, none⟩)), (fun v _ => v = .string (text kx)), (fun v _ => v = .int .i64 (kx.length : Int))] (fun _ => False) (by kernel_rfl) (by kernel_rfl) (by kernel_rfl) rfl rfl rfl ?_ ?_ ?_
                  · intro g hg v X Y hX hY hv
                    simp only [List.mem_cons, List.not_mem_nil, or_false] at hg
                    rcases hg with rfl | rfl | rfl | rfl | rfl | rfl | rfl | rfl
                    all_goals first
                      | exact hv
                      | exact hv.kept hY
                  · simp only [flowOpsF, List.take_succ_cons, List.take_zero, and_true]
                    refine ⟨?_,?_,?_,?_,?_,?_,?_,?_⟩
                    · intro xs W hW hn
                      simp only [flowAct, zwc, zwn]
                      go_wp2_with (fail)
                      exact ⟨rfl, _, rfl, Below.refl _ _, rfl, fun h => h.elim⟩
                    · intro xs W hW hn
                      simp [flowNeeds, Region.binds] at hn
                      simp only [flowAct, zwc, zwn]
                      simp only [hn]
                      go_wp2_with (go_at_call 27; (with_reducible refine (HA0.out _).mono ?_); rintro e9 w9 ⟨rfl, rfl⟩)
                      exact ⟨rfl, _, rfl, Below.refl _ _, rfl, fun h => h.elim⟩
                    · intro xs W hW hn
                      simp only [flowAct, zwc, zwn]
                      go_wp2_with (fail)
                      exact ⟨rfl, _, rfl, Below.refl _ _, rfl, fun h => h.elim⟩
                    · intro xs W hW hn
                      simp only [flowAct, zwc, zwn]
                      go_wp2_with (fail)
                      exact ⟨rfl, _, rfl, Below.refl _ _, rfl, fun h => h.elim⟩
                    · intro xs W hW hn
                      simp [flowNeeds, Region.binds] at hn
                      simp only [flowAct, zwc, zwn]
                      try simp only [hn]
                      go_wp2_with (fail)
                      exact ⟨rfl, _, rfl, Below.refl _ _, rfl, fun h => h.elim⟩
                    · intro xs W hW hn
                      simp [flowNeeds, Region.binds] at hn
                      simp only [flowAct, zwc, zwn]
                      try simp only [hn]
                      go_wp2_with (fail)
                      exact ⟨rfl, _, rfl, Below.refl _ _, rfl, fun h => h.elim⟩
                    · intro xs W hW hn
                      obtain ⟨x0, x1⟩ := HXW.out W hW
                      simp [flowNeeds, Region.binds] at hn
                      simp only [flowAct, zwc, zwn]
                      try simp only [hn]
                      go_wp2_with (fail)
                      exact ⟨rfl, _, rfl, Below.refl _ _, rfl, fun h => h.elim⟩
                    · intro xs W hW hn
                      have hsz := HSZ.out
                      simp [flowNeeds, Region.binds] at hn
                      simp only [flowAct, zwc, zwn]
                      try simp only [hn]
                      go_wp2_with (fail)
                      exact ⟨rfl, _, rfl, Below.refl _ _, rfl, fun h => h.elim⟩
                  · intro xs W hW hall hfr
                    clear hfr
                    simp only [flowAll, and_true, Nat.zero_add, Nat.reduceAdd] at hall
                    obtain ⟨-, e1, -,-,-,-,-, e7⟩ := hall
                    simp only [flowAct, zwc, zwn, List.drop_succ_cons, List.drop_zero]
                    simp only [e1, e7]
                    have HB5 := Lib.hid (HB.out.trans (hW.mono HB.out.size))
                    clear hW e1 e7 HA0 HXW HSZ
                    go_wp2_with (go_at_call 27; (with_reducible refine (HA2.out _).mono ?_); rintro e9 w9 ⟨rfl, rfl⟩)
                    go_loopw [7, 13] (fun v j9 wz => ∃ (c q : Nat), c ≤ nc ∧ j9 = .int .i64 (c : Int) ∧ v = .int .i64 (q : Int) ∧ q ≤ 6001 ∧ (q ≤ 6000 → PI ∧ 10 * (i + 1) + 10 * c ≤ q) ∧ Below w.heap.size w wz) (fun _ j9 _ => nc - (intOf j9).toNat)
                    case atStart => exact ⟨0, _, by omega, rfl, rfl, satM_le _ _, fun h => ⟨(HST.out h).1, by have := (HST.out h).2; omega⟩, HB5.out⟩
                    case round =>
                      clear HA2 HST HB5 HB HLO hf hfi hq2
                      obtain ⟨c, q3, hc, rfl, rfl, hq3, hlo, hB⟩ := hrel
                      obtain ⟨x0, x1⟩ := HXA.out _ hB
                      have HB := Lib.hid hB
                      have HLO := Lib.hid hlo
                      clear hB hlo
                      by_cases hcn : c < nc
                      · have hci : (c : Int) < (nc : Int) := by omega
                        have hcc : (c : Int) < (cc : Int) := by omega
                        by_cases hf : 6000 < q3
                        · have hfi : ¬ (q3 : Int) ≤ 6000 := by omega
                          go_wp2
                          go_roundw
                          case rel => exact ⟨i + 1, q3, by omega, by go_num, rfl, hq3, fun h => absurd h (by omega), HB.out⟩
                          case measure => simp [intOf]; omega
                        · have hfi : (q3 : Int) ≤ 6000 := by omega
                          obtain ⟨bc, offc, rfl, hatc⟩ := HCA.out.at hcn
                          have hmem : csx.getD c Cl.zero ∈ csx := by rw [List.getD_eq_getElem?_getD, List.getElem?_eq_getElem (by rw [HCA.out.len]; exact hcn)]; exact List.getElem_mem _
                          have hcx := HTS.out _ hmem
                          obtain ⟨y, hy⟩ : ∃ y, csx.getD c Cl.zero = y := ⟨_, rfl⟩
                          rw [hy] at hatc hcx
                          obtain ⟨n9, s9, a9, b9, g9, tx, d9, f9⟩ := y
                          simp only at hcx
                          have HXW := Lib.hid (fun W (h : Below wr.heap.size wr W) => HXA.out W (HB.out.trans (h.mono HB.out.size)))
                          have HCW := Lib.hid (fun W (h : Below wr.heap.size wr W) => hatc W (HB.out.trans (h.mono HB.out.size)))
                          have HSZ := Lib.hid (show ((text tx).size : Int) = (tx.length : Int) by rw [text_size])
                          have HA0 := Lib.hid (fun W => show Calls Try.prog 27 #[.int .i64 (q3 : Int), .int .i64 10, .int .i64 6000] W _ from radd6_c q3 10 hq3 (by omega) W)
                          have HA2 := Lib.hid (fun W => radd6_c (satM q3 10) tx.length (satM_le _ _) hcx W)
                          have HST := Lib.hid (satM_keeps (k := tx.length) (show satM q3 10 ≤ 6000 → PI ∧ 10 * (i + 1) + 10 * (c + 1) ≤ satM q3 10 from fun h1 => by
                            obtain ⟨e, h2⟩ := satM_fits h1
                            have h3 := HLO.out (by omega)
                            exact ⟨h3.1, by have := h3.2; omega⟩))
                          clear hatc hmem hcx hy
                          go_upto_region 20 with (fail)
                          refine wp_region_flow_tail 12 [none,none,none,none,none,none,none,none,none,none,none,none,none,none,none,none,none,none,none,none,none,none,none,none,none,none,none,none,none,none,none,none,none,none,none,none,none,none,none,none,none,none,none,none,none,none,none,none,none,none,none,none,none,none,none,none,none,none,none,none,none,none,none,none,none,none,none,none,none,none,none,none,none,none,none,none,none,none,none,none,none,none,none,none,none,none,none,none,none,none,none,none,none,none,none,none,none,none,none,none,none,none,none,none,none,none, some 0, some 1, some 2, some 3, some 4, some 5, some 6, some 7, some 8, some 9, some 10, some 11, none,none,none,none] (fun i => [u106, u107, u108, u109, u110, u111, u112, u113, u114, u115, u116, u117].getD i undef) [(fun v _ => v = .int .i64 (q3 : Int)), (fun v _ => v = .int .i64 ((satM q3 10 : Nat) : Int)), (fun v _ => v = .slice (some ⟨bx, offx, none⟩) mx cx), (fun v _ => v = .int .i64 (i : Int)), (fun v _ => v = .pointer (some ⟨bx, offx + i * 2, none⟩)), (fun v _ => v = .pointer (some ⟨bx, offx + i * 2 + 1, none⟩)), (fun v _ => v = .slice (some ⟨bc, offc, none⟩) nc cc), (fun v _ => v = .int .i64 (c : Int)), (fun v _ => v = .pointer (some ⟨bc, offc + c * 8, none⟩)), (fun v _ => v = .pointer (some ⟨bc, offc + c * 8 + 5, none⟩)), (fun v _ => v = .string (text tx)), (fun v _ => v = .int .i64 (tx.length : Int))] (fun _ => False) (by kernel_rfl) (by kernel_rfl) (by kernel_rfl) rfl rfl rfl ?_ ?_ ?_
                          · intro g hg v X Y hX hY hv
                            simp only [List.mem_cons, List.not_mem_nil, or_false] at hg
                            rcases hg with rfl | rfl | rfl | rfl | rfl | rfl | rfl | rfl | rfl | rfl | rfl | rfl
                            all_goals first
                              | exact hv
                              | exact hv.kept hY
                          · simp only [flowOpsF, List.take_succ_cons, List.take_zero, and_true]
                            refine ⟨?_,?_,?_,?_,?_,?_,?_,?_,?_,?_,?_,?_⟩
                            · intro xs W hW hn
                              simp only [flowAct, zwc, zwn]
                              go_wp2_with (fail)
                              exact ⟨rfl, _, rfl, Below.refl _ _, rfl, fun h => h.elim⟩
                            · intro xs W hW hn
                              simp [flowNeeds, Region.binds] at hn
                              simp only [flowAct, zwc, zwn]
                              simp only [hn]
                              go_wp2_with (go_at_call 27; (with_reducible refine (HA0.out _).mono ?_); rintro e9 w9 ⟨rfl, rfl⟩)
                              exact ⟨rfl, _, rfl, Below.refl _ _, rfl, fun h => h.elim⟩
                            · intro xs W hW hn
                              simp only [flowAct, zwc, zwn]
                              go_wp2_with (fail)
                              exact ⟨rfl, _, rfl, Below.refl _ _, rfl, fun h => h.elim⟩
                            · intro xs W hW hn
                              simp only [flowAct, zwc, zwn]
                              go_wp2_with (fail)
                              exact ⟨rfl, _, rfl, Below.refl _ _, rfl, fun h => h.elim⟩
                            · intro xs W hW hn
                              simp [flowNeeds, Region.binds] at hn
                              simp only [flowAct, zwc, zwn]
                              try simp only [hn]
                              go_wp2_with (fail)
                              exact ⟨rfl, _, rfl, Below.refl _ _, rfl, fun h => h.elim⟩
                            · intro xs W hW hn
                              simp [flowNeeds, Region.binds] at hn
                              simp only [flowAct, zwc, zwn]
                              try simp only [hn]
                              go_wp2_with (fail)
                              exact ⟨rfl, _, rfl, Below.refl _ _, rfl, fun h => h.elim⟩
                            · intro xs W hW hn
                              obtain ⟨x0, x1⟩ := HXW.out W hW
                              simp [flowNeeds, Region.binds] at hn
                              simp only [flowAct, zwc, zwn]
                              try simp only [hn]
                              go_wp2_with (fail)
                              exact ⟨rfl, _, rfl, Below.refl _ _, rfl, fun h => h.elim⟩
                            · intro xs W hW hn
                              simp only [flowAct, zwc, zwn]
                              go_wp2_with (fail)
                              exact ⟨rfl, _, rfl, Below.refl _ _, rfl, fun h => h.elim⟩
                            · intro xs W hW hn
                              simp [flowNeeds, Region.binds] at hn
                              simp only [flowAct, zwc, zwn]
                              try simp only [hn]
                              go_wp2_with (fail)
                              exact ⟨rfl, _, rfl, Below.refl _ _, rfl, fun h => h.elim⟩
                            · intro xs W hW hn
                              simp [flowNeeds, Region.binds] at hn
                              simp only [flowAct, zwc, zwn]
                              try simp only [hn]
                              go_wp2_with (fail)
                              exact ⟨rfl, _, rfl, Below.refl _ _, rfl, fun h => h.elim⟩
                            · intro xs W hW hn
                              obtain ⟨p0, p1, p2, p3, p4, p5, p6, p7⟩ := HCW.out W hW
                              simp [flowNeeds, Region.binds] at hn
                              simp only [flowAct, zwc, zwn]
                              try simp only [hn]
                              go_wp2_with (fail)
                              exact ⟨rfl, _, rfl, Below.refl _ _, rfl, fun h => h.elim⟩
                            · intro xs W hW hn
                              have hsz := HSZ.out
                              simp [flowNeeds, Region.binds] at hn
                              simp only [flowAct, zwc, zwn]
                              try simp only [hn]
                              go_wp2_with (fail)
                              exact ⟨rfl, _, rfl, Below.refl _ _, rfl, fun h => h.elim⟩
                          · intro xs W hW hall hfr
                            clear hfr
                            simp only [flowAll, and_true, Nat.zero_add, Nat.reduceAdd] at hall
                            obtain ⟨-, e1, -,-,-,-,-,-,-,-,-, e11⟩ := hall
                            simp only [flowAct, zwc, zwn, List.drop_succ_cons, List.drop_zero]
                            simp only [e1, e11]
                            have HB5 := Lib.hid (HB.out.trans (hW.mono HB.out.size))
                            clear hW e1 e11 HA0 HXW HCW HSZ
                            go_wp2_with (go_at_call 27; (with_reducible refine (HA2.out _).mono ?_); rintro e9 w9 ⟨rfl, rfl⟩)
                            go_roundw
                            case rel => exact ⟨c + 1, _, by omega, by go_num, rfl, satM_le _ _, HST.out, HB5.out⟩
                            case measure => simp [intOf]; omega
                      · obtain rfl : c = nc := by omega
                        have HL8 := Lib.hid (show q3 ≤ 6000 → (PP ∧ ∀ i', i' < i + 1 → (LX.getD i' Rw.zero).cs.length ≤ 600) ∧ 10 * (i + 1) ≤ q3 from fun h => by
                          obtain ⟨h1, h2⟩ := HLO.out h
                          rw [← HPI.out] at h1
                          refine ⟨⟨h1.1, fun i' hi' => ?_⟩, by omega⟩
                          by_cases e : i' = i
                          · subst e; rw [HNC.out]; omega
                          · exact h1.2 i' (by omega))
                        go_wp2
                        go_roundw
                        case rel => exact ⟨i + 1, q3, by omega, by go_num, rfl, hq3, HL8.out, HB.out⟩
                        case measure => simp [intOf]; omega
              · obtain rfl : i = mx := by omega
                have HN := Lib.hid (show q2 ≤ 6000 → m ≤ 600 ∧ ∀ i', i' < j + 1 → LightR (F i') from fun h => by
                  obtain ⟨⟨h1, h8⟩, h2⟩ := HLO.out h
                  rw [← HPP.out] at h1
                  refine ⟨h1.1, fun i' hi' => ?_⟩
                  by_cases e : i' = j
                  · subst e; rw [HFJ.out]
                    exact ⟨by show i ≤ 600; omega, fun r hr => by
                      obtain ⟨p, hp, rfl⟩ := List.getElem_of_mem (show r ∈ LX from hr)
                      have h9 := h8 p (by have := HRW.out.1.len; omega)
                      rwa [List.getD_eq_getElem?_getD, List.getElem?_eq_getElem hp] at h9⟩
                  · exact h1.2 i' (by omega))
                go_wp2
                go_roundw
                case rel => exact ⟨j + 1, q2, by omega, by go_num, rfl, hq2, HN.out, HB.out⟩
                case measure => simp [intOf]; omega
          · obtain rfl : j = nr := by omega
            clear hB hlo
            go_wp2
            go_ret
            exact ⟨_, rfl, fun h => HLO.out (by have := of_decide_eq_true h; omega), HB.out⟩
      · have hfi : (q : Int) ≤ 6000 := by omega
        obtain ⟨bk, off, aw, mw, cw, rfl, hu, hmw, hws, hsh, hat⟩ := HL.out.place him
        have hmwl := hws.le
        have hmwm := hws.max
        have HWS := Lib.hid hws
        have HSH := Lib.hid hsh
        have HMW := Lib.hid hmw
        have HAT0 := Lib.hid (fun W (h : Below w.heap.size w W) => (hat W h).2.2.2.2.2.2)
        have HA0 := Lib.hid (fun W => show Calls Try.prog 27 #[.int .i64 (q : Int), .int .i64 10, .int .i64 6000] W _ from radd6_c q 10 hq (by omega) W)
        have HL1 := Lib.hid (show satM q 10 ≤ 6000 → 10 * (i + 1) ≤ satM q 10 from fun h1 => by
          obtain ⟨e, h2⟩ := satM_fits h1
          have := HLO.out (by omega)
          omega)
        clear hu hws hsh hmw hat
        go_upto_region 7 with (go_at_call 27; (with_reducible refine (HA0.out _).mono ?_); rintro e9 w9 ⟨rfl, rfl⟩)
        go_loopw [7, 9] (fun v j9 wz => ∃ (j q : Nat), j ≤ mw ∧ j9 = .int .i64 (j : Int) ∧ v = .int .i64 (q : Int) ∧ q ≤ 6001 ∧ (q ≤ 6000 → 10 * (i + 1) ≤ q) ∧ Below w.heap.size w wz) (fun _ j9 _ => mw - (intOf j9).toNat)
        case atStart => exact ⟨0, satM q 10, by omega, rfl, rfl, satM_le _ _, HL1.out, HB.out⟩
        case round =>
          clear HA0 HL1 HB HLO hf hfi hq
          obtain ⟨j, q2, hj, rfl, rfl, hq2, hlo, hB⟩ := hrel
          have p6 := HAT0.out _ hB
          have HB := Lib.hid hB
          have HLO := Lib.hid hlo
          clear hB hlo
          by_cases hjm : j < mw
          · have hji : (j : Int) < (mw : Int) := by omega
            have hjc : (j : Int) < (cw : Int) := by omega
            by_cases hf : 6000 < q2
            · have hfi : ¬ (q2 : Int) ≤ 6000 := by omega
              go_wp2
              go_roundw
              case rel => exact ⟨i + 1, q2, by omega, by go_num, rfl, hq2, HLO.out, HB.out⟩
              case measure => simp [intOf]; omega
            · have hfi : (q2 : Int) ≤ 6000 := by omega
              obtain ⟨bw, offw, rfl, hatw⟩ := HWS.out.place hjm
              have hmem := mem_getDw (l := (L.getD i Cg.zero).ws) (k := j) (by rw [← HMW.out]; exact hjm)
              have hcx := HSH.out _ hmem
              obtain ⟨y, hy⟩ : ∃ y, (L.getD i Cg.zero).ws.getD j Wr.zero = y := ⟨_, rfl⟩
              rw [hy] at hatw hcx
              obtain ⟨kx, ix, gx, vx⟩ := y
              simp only at hatw hcx
              have HAT := Lib.hid (fun W (h : Below wr.heap.size wr W) => HAT0.out W (HB.out.trans (h.mono HB.out.size)))
              have HAW := Lib.hid (fun W (h : Below wr.heap.size wr W) => hatw W (HB.out.trans (h.mono HB.out.size)))
              have HSZ := Lib.hid (show ((text kx).size : Int) = (kx.length : Int) by rw [text_size])
              have HSZ2 := Lib.hid (show ((text vx).size : Int) = (vx.length : Int) by rw [text_size])
              have HA0 := Lib.hid (fun W => show Calls Try.prog 27 #[.int .i64 (q2 : Int), .int .i64 10, .int .i64 6000] W _ from radd6_c q2 10 hq2 (by omega) W)
              have HA1 := Lib.hid (fun W => radd6_c (satM q2 10) kx.length (satM_le _ _) hcx.1 W)
              have HA2 := Lib.hid (fun W => radd6_c (satM (satM q2 10) kx.length) vx.length (satM_le _ _) hcx.2 W)
              have HST := Lib.hid (satM_grows (k := vx.length) (satM_grows (k := kx.length) (satM_grows (k := 10) HLO.out)))
              clear hatw hmem hcx hy
              go_upto_region 9 with (fail)
              refine wp_region_flow_tail 23 [none,none,none,none,none,none,none,none,none,none,none,none,none,none,none,none,none,none,none,none,none,none,none,none,none,none,none,none,none,none,none,none,none,none,none,none,none,none,none,none,none,none,none, some 0, some 1, some 2, some 3, some 4, some 5, some 6, some 7, some 8, some 9, some 10, some 11, some 12, some 13, some 14, some 15, some 16, some 17, some 18, some 19, some 20, some 21, some 22, none,none,none,none,none,none,none,none,none,none,none,none,none,none,none,none,none,none,none,none,none,none,none,none,none,none,none,none,none,none,none,none,none,none,none,none,none,none,none,none,none,none,none,none,none,none,none,none,none,none,none,none,none,none,none,none] (fun i => [u43, u44, u45, u46, u47, u48, u49, u50, u51, u52, u53, u54, u55, u56, u57, u58, u59, u60, u61, u62, u63, u64, u65].getD i undef) [(fun v _ => v = .int .i64 (q2 : Int)), (fun v _ => v = .int .i64 ((satM q2 10 : Nat) : Int)), (fun v _ => v = .slice (some ⟨bk, off, none⟩) m cp), (fun v _ => v = .int .i64 (i : Int)), (fun v _ => v = .pointer (some ⟨bk, off + i * 7, none⟩)), (fun v _ => v = .pointer (some ⟨bk, off + i * 7 + 6, none⟩)), (fun v _ => v = .slice (some ⟨bw, offw, none⟩) mw cw), (fun v _ => v = .int .i64 (j : Int)), (fun v _ => v = .pointer (some ⟨bw, offw + j * 4, none⟩)), (fun v _ => v = .pointer (some ⟨bw, offw + j * 4, none⟩)), (fun v _ => v = .string (text kx)), (fun v _ => v = .int .i64 (kx.length : Int)), (fun v _ => v = .int .i64 ((satM (satM q2 10) kx.length : Nat) : Int)), (fun v _ => v = .slice (some ⟨bk, off, none⟩) m cp), (fun v _ => v = .int .i64 (i : Int)), (fun v _ => v = .pointer (some ⟨bk, off + i * 7, none⟩)), (fun v _ => v = .pointer (some ⟨bk, off + i * 7 + 6, none⟩)), (fun v _ => v = .slice (some ⟨bw, offw, none⟩) mw cw), (fun v _ => v = .int .i64 (j : Int)), (fun v _ => v = .pointer (some ⟨bw, offw + j * 4, none⟩)), (fun v _ => v = .pointer (some ⟨bw, offw + j * 4 + 3, none⟩)), (fun v _ => v = .string (text vx)), (fun v _ => v = .int .i64 (vx.length : Int))] (fun _ => False) (by kernel_rfl) (by kernel_rfl) (by kernel_rfl) rfl rfl rfl ?_ ?_ ?_
              · intro g hg v X Y hX hY hv
                simp only [List.mem_cons, List.not_mem_nil, or_false] at hg
                rcases hg with rfl | rfl | rfl | rfl | rfl | rfl | rfl | rfl | rfl | rfl | rfl | rfl | rfl | rfl | rfl | rfl | rfl | rfl | rfl | rfl | rfl | rfl | rfl
                all_goals first
                  | exact hv
                  | exact hv.kept hY
              · simp only [flowOpsF, List.take_succ_cons, List.take_zero, and_true]
                refine ⟨?_,?_,?_,?_,?_,?_,?_,?_,?_,?_,?_,?_,?_,?_,?_,?_,?_,?_,?_,?_,?_,?_,?_⟩
                · intro xs W hW hn
                  simp only [flowAct, zwc, zwn]
                  go_wp2_with (fail)
                  exact ⟨rfl, _, rfl, Below.refl _ _, rfl, fun h => h.elim⟩
                · intro xs W hW hn
                  simp [flowNeeds, Region.binds] at hn
                  simp only [flowAct, zwc, zwn]
                  simp only [hn]
                  go_wp2_with (go_at_call 27; (with_reducible refine (HA0.out _).mono ?_); rintro e9 w9 ⟨rfl, rfl⟩)
                  exact ⟨rfl, _, rfl, Below.refl _ _, rfl, fun h => h.elim⟩
                · intro xs W hW hn
                  simp only [flowAct, zwc, zwn]
                  go_wp2_with (fail)
                  exact ⟨rfl, _, rfl, Below.refl _ _, rfl, fun h => h.elim⟩
                · intro xs W hW hn
                  simp only [flowAct, zwc, zwn]
                  go_wp2_with (fail)
                  exact ⟨rfl, _, rfl, Below.refl _ _, rfl, fun h => h.elim⟩
                · intro xs W hW hn
                  simp [flowNeeds, Region.binds] at hn
                  simp only [flowAct, zwc, zwn]
                  try simp only [hn]
                  go_wp2_with (fail)
                  exact ⟨rfl, _, rfl, Below.refl _ _, rfl, fun h => h.elim⟩
                · intro xs W hW hn
                  simp [flowNeeds, Region.binds] at hn
                  simp only [flowAct, zwc, zwn]
                  try simp only [hn]
                  go_wp2_with (fail)
                  exact ⟨rfl, _, rfl, Below.refl _ _, rfl, fun h => h.elim⟩
                · intro xs W hW hn
                  have p6 := HAT.out W hW
                  simp [flowNeeds, Region.binds] at hn
                  simp only [flowAct, zwc, zwn]
                  try simp only [hn]
                  go_wp2_with (fail)
                  exact ⟨rfl, _, rfl, Below.refl _ _, rfl, fun h => h.elim⟩
                · intro xs W hW hn
                  simp only [flowAct, zwc, zwn]
                  go_wp2_with (fail)
                  exact ⟨rfl, _, rfl, Below.refl _ _, rfl, fun h => h.elim⟩
                · intro xs W hW hn
                  simp [flowNeeds, Region.binds] at hn
                  simp only [flowAct, zwc, zwn]
                  try simp only [hn]
                  go_wp2_with (fail)
                  exact ⟨rfl, _, rfl, Below.refl _ _, rfl, fun h => h.elim⟩
                · intro xs W hW hn
                  simp [flowNeeds, Region.binds] at hn
                  simp only [flowAct, zwc, zwn]
                  try simp only [hn]
                  go_wp2_with (fail)
                  exact ⟨rfl, _, rfl, Below.refl _ _, rfl, fun h => h.elim⟩
                · intro xs W hW hn
                  obtain ⟨q0, q1, q2, q3⟩ := HAW.out W hW
                  simp [flowNeeds, Region.binds] at hn
                  simp only [flowAct, zwc, zwn]
                  try simp only [hn]
                  go_wp2_with (fail)
                  exact ⟨rfl, _, rfl, Below.refl _ _, rfl, fun h => h.elim⟩
                · intro xs W hW hn
                  have hsz := HSZ.out
                  simp [flowNeeds, Region.binds] at hn
                  simp only [flowAct, zwc, zwn]
                  try simp only [hn]
                  go_wp2_with (fail)
                  exact ⟨rfl, _, rfl, Below.refl _ _, rfl, fun h => h.elim⟩
                · intro xs W hW hn
                  simp [flowNeeds, Region.binds] at hn
                  simp only [flowAct, zwc, zwn]
                  simp only [hn]
                  go_wp2_with (go_at_call 27; (with_reducible refine (HA1.out _).mono ?_); rintro e9 w9 ⟨rfl, rfl⟩)
                  exact ⟨rfl, _, rfl, Below.refl _ _, rfl, fun h => h.elim⟩
                · intro xs W hW hn
                  simp only [flowAct, zwc, zwn]
                  go_wp2_with (fail)
                  exact ⟨rfl, _, rfl, Below.refl _ _, rfl, fun h => h.elim⟩
                · intro xs W hW hn
                  simp only [flowAct, zwc, zwn]
                  go_wp2_with (fail)
                  exact ⟨rfl, _, rfl, Below.refl _ _, rfl, fun h => h.elim⟩
                · intro xs W hW hn
                  simp [flowNeeds, Region.binds] at hn
                  simp only [flowAct, zwc, zwn]
                  try simp only [hn]
                  go_wp2_with (fail)
                  exact ⟨rfl, _, rfl, Below.refl _ _, rfl, fun h => h.elim⟩
                · intro xs W hW hn
                  simp [flowNeeds, Region.binds] at hn
                  simp only [flowAct, zwc, zwn]
                  try simp only [hn]
                  go_wp2_with (fail)
                  exact ⟨rfl, _, rfl, Below.refl _ _, rfl, fun h => h.elim⟩
                · intro xs W hW hn
                  have p6 := HAT.out W hW
                  simp [flowNeeds, Region.binds] at hn
                  simp only [flowAct, zwc, zwn]
                  try simp only [hn]
                  go_wp2_with (fail)
                  exact ⟨rfl, _, rfl, Below.refl _ _, rfl, fun h => h.elim⟩
                · intro xs W hW hn
                  simp only [flowAct, zwc, zwn]
                  go_wp2_with (fail)
                  exact ⟨rfl, _, rfl, Below.refl _ _, rfl, fun h => h.elim⟩
                · intro xs W hW hn
                  simp [flowNeeds, Region.binds] at hn
                  simp only [flowAct, zwc, zwn]
                  try simp only [hn]
                  go_wp2_with (fail)
                  exact ⟨rfl, _, rfl, Below.refl _ _, rfl, fun h => h.elim⟩
                · intro xs W hW hn
                  simp [flowNeeds, Region.binds] at hn
                  simp only [flowAct, zwc, zwn]
                  try simp only [hn]
                  go_wp2_with (fail)
                  exact ⟨rfl, _, rfl, Below.refl _ _, rfl, fun h => h.elim⟩
                · intro xs W hW hn
                  obtain ⟨q0, q1, q2, q3⟩ := HAW.out W hW
                  simp [flowNeeds, Region.binds] at hn
                  simp only [flowAct, zwc, zwn]
                  try simp only [hn]
                  go_wp2_with (fail)
                  exact ⟨rfl, _, rfl, Below.refl _ _, rfl, fun h => h.elim⟩
                · intro xs W hW hn
                  have hsz2 := HSZ2.out
                  simp [flowNeeds, Region.binds] at hn
                  simp only [flowAct, zwc, zwn]
                  try simp only [hn]
                  go_wp2_with (fail)
                  exact ⟨rfl, _, rfl, Below.refl _ _, rfl, fun h => h.elim⟩
              · intro xs W hW hall hfr
                clear hfr
                simp only [flowAll, and_true, Nat.zero_add, Nat.reduceAdd] at hall
                obtain ⟨-,-,-,-,-,-,-,-,-,-,-,-, e12, -,-,-,-,-,-,-,-,-, e22⟩ := hall
                simp only [flowAct, zwc, zwn, List.drop_succ_cons, List.drop_zero]
                simp only [e12, e22]
                have HB5 := Lib.hid (HB.out.trans (hW.mono HB.out.size))
                clear hW e12 e22 HA0 HA1 HAT HAW HSZ HSZ2
                go_wp2_with (go_at_call 27; (with_reducible refine (HA2.out _).mono ?_); rintro e9 w9 ⟨rfl, rfl⟩)
                go_roundw
                case rel => exact ⟨j + 1, _, by omega, by go_num, rfl, satM_le _ _, HST.out, HB5.out⟩
                case measure => simp [intOf]; omega
          · obtain rfl : j = mw := by omega
            go_wp2
            go_roundw
            case rel => exact ⟨i + 1, q2, by omega, by go_num, rfl, hq2, HLO.out, HB.out⟩
            case measure => simp [intOf]; omega
    · obtain rfl : m = i := by omega
      by_cases hf : 6000 < q
      · have hfi : ¬ (q : Int) ≤ 6000 := by omega
        go_wp2
        go_loopw [7, 69] (fun v9 j9 wz => ∃ (j q : Nat), j ≤ nr ∧ j9 = .int .i64 (j : Int) ∧ v9 = .int .i64 (q : Int) ∧ q ≤ 6001 ∧ (q ≤ 6000 → m ≤ 600 ∧ ∀ i, i < j → LightR (F i)) ∧ Below w.heap.size w wz) (fun _ j9 _ => nr - (intOf j9).toNat)
        case atStart => exact ⟨0, q, by omega, rfl, rfl, hq, fun h => ⟨by have := HLO.out h; omega, fun i hi => by omega⟩, HB.out⟩
        case round =>
          clear HLO HB hq hf hfi
          obtain ⟨j, q1, hj, rfl, rfl, hq1, hlo, hB⟩ := hrel
          have HB := Lib.hid hB
          have HLO := Lib.hid hlo
          by_cases hjn : j < nr
          · have hji : (j : Int) < (nr : Int) := by omega
            have hjc : (j : Int) < (cr : Int) := by omega
            obtain ⟨hce, hrw, hsh⟩ := HF.out j hjn
            obtain ⟨⟨ax, mx, cx, LX⟩, hFj⟩ : ∃ z, F j = z := ⟨_, rfl⟩
            rw [hFj] at hce hrw hsh
            simp only at hce hrw hsh
            have hcell := (hB.cell (World.block_lt_of_cell? w _ hce)).trans hce
            have HFJ := Lib.hid hFj
            have HRW := Lib.hid hrw
            have HRS := Lib.hid hsh
            have hmxl := hrw.1.le
            have hmxm := hrw.1.max
            obtain ⟨PP, hPP⟩ : ∃ z : Prop, (m ≤ 600 ∧ ∀ i, i < j → LightR (F i)) = z := ⟨_, rfl⟩
            have HPP := Lib.hid hPP
            rw [hPP] at HLO
            clear hce hrw hsh hFj hPP hB hlo
            go_upto_region 14 with (fail)
            clear hcell
            go_loopw [7, 12] (fun v j9 wz => ∃ (i q : Nat), i ≤ mx ∧ j9 = .int .i64 (i : Int) ∧ v = .int .i64 (q : Int) ∧ q ≤ 6001 ∧ (q ≤ 6000 → (PP ∧ ∀ i', i' < i → (LX.getD i' Rw.zero).cs.length ≤ 600) ∧ 10 * i ≤ q) ∧ Below w.heap.size w wz) (fun _ j9 _ => mx - (intOf j9).toNat)
            case atStart => exact ⟨0, q1, by omega, rfl, rfl, hq1, fun h => ⟨⟨HLO.out h, fun i' hi' => by omega⟩, by omega⟩, HB.out⟩
            case round =>
              clear HLO HB hq1
              obtain ⟨i, q2, hi, rfl, rfl, hq2, hlo, hB⟩ := hrel
              have HB := Lib.hid hB
              have HLO := Lib.hid hlo
              clear hB hlo
              by_cases him : i < mx
              · have hii : (i : Int) < (mx : Int) := by omega
                have hic : (i : Int) < (cx : Int) := by omega
                by_cases hf : 6000 < q2
                · have hfi : ¬ (q2 : Int) ≤ 6000 := by omega
                  go_wp2
                  go_roundw
                  case rel => exact ⟨j + 1, q2, by omega, by go_num, rfl, hq2, fun h => absurd h (by omega), HB.out⟩
                  case measure => simp [intOf]; omega
                · have hfi : (q2 : Int) ≤ 6000 := by omega
                  obtain ⟨bx, offx, ac, nc, cc, rfl, hu, hnc, hca, hatx⟩ := HRW.out.place him
                  have HNC := Lib.hid hnc.symm
                  obtain ⟨PI, hPI⟩ : ∃ z : Prop, (PP ∧ ∀ i', i' < i → (LX.getD i' Rw.zero).cs.length ≤ 600) = z := ⟨_, rfl⟩
                  have HPI := Lib.hid hPI
                  rw [hPI] at HLO
                  clear hPI
                  have hmem : LX.getD i Rw.zero ∈ LX := by rw [List.getD_eq_getElem?_getD, List.getElem?_eq_getElem (by rw [HRW.out.1.len]; exact him)]; exact List.getElem_mem _
                  have hkx := HRS.out _ hmem
                  obtain ⟨y, hy⟩ : ∃ y, LX.getD i Rw.zero = y := ⟨_, rfl⟩
                  rw [hy] at hatx hkx hca hnc
                  obtain ⟨kx, ux, csx⟩ := y
                  simp only at hatx hkx hca hnc
                  have hncl := hca.le
                  have hncm := hca.max
                  have HTS := Lib.hid hkx.2
                  have HCA := Lib.hid hca
                  have HXA := Lib.hid hatx
                  have HXW := Lib.hid (fun W (h : Below wr.heap.size wr W) => hatx W (HB.out.trans (h.mono HB.out.size)))
                  have HSZ := Lib.hid (show ((text kx).size : Int) = (kx.length : Int) by rw [text_size])
                  have HA0 := Lib.hid (fun W => show Calls Try.prog 27 #[.int .i64 (q2 : Int), .int .i64 10, .int .i64 6000] W _ from radd6_c q2 10 hq2 (by omega) W)
                  have HA2 := Lib.hid (fun W => radd6_c (satM q2 10) kx.length (satM_le _ _) hkx.1 W)
                  have HST := Lib.hid (satM_keeps (k := kx.length) (show satM q2 10 ≤ 6000 → PI ∧ 10 * (i + 1) ≤ satM q2 10 from fun h1 => by
                    obtain ⟨e, h2⟩ := satM_fits h1
                    have h3 := HLO.out (by omega)
                    exact ⟨h3.1, by have := h3.2; omega⟩))
                  clear hu hnc hca hatx hmem hkx hy
                  go_upto_region 16 with (fail)
                  refine wp_region_flow_tail 8 [none,none,none,none,none,none,none,none,none,none,none,none,none,none,none,none,none,none,none,none,none,none,none,none,none,none,none,none,none,none,none,none,none,none,none,none,none,none,none,none,none,none,none,none,none,none,none,none,none,none,none,none,none,none,none,none,none,none,none,none,none,none,none,none,none,none,none,none,none,none,none,none,none,none,none,none,none,none,none,none,none,none,none, some 0, some 1, some 2, some 3, some 4, some 5, some 6, some 7, none,none,none,none,none,none,none,none,none,none,none,none,none,none,none,none,none,none,none,none,none,none,none,none,none,none,none,none,none,none,none] (fun i => [u83, u84, u85, u86, u87, u88, u89, u90].getD i undef) [(fun v _ => v = .int .i64 (q2 : Int)), (fun v _ => v = .int .i64 ((satM q2 10 : Nat) : Int)), (fun v _ => v = .slice (some ⟨bx, offx, none⟩) mx cx), (fun v _ => v = .int .i64 (i : Int)), (fun v _ => v = .pointer (some ⟨bx, offx + i * 2, none⟩)), (fun v _ => v = .pointer (some ⟨bx, offx + i * 2, none⟩)), (fun v _ => v = .string (text kx)), (fun v _ => v = .int .i64 (kx.length : Int))] (fun _ => False) (by kernel_rfl) (by kernel_rfl) (by kernel_rfl) rfl rfl rfl ?_ ?_ ?_
                  · intro g hg v X Y hX hY hv
                    simp only [List.mem_cons, List.not_mem_nil, or_false] at hg
                    rcases hg with rfl | rfl | rfl | rfl | rfl | rfl | rfl | rfl
                    all_goals first
                      | exact hv
                      | exact hv.kept hY
                  · simp only [flowOpsF, List.take_succ_cons, List.take_zero, and_true]
                    refine ⟨?_,?_,?_,?_,?_,?_,?_,?_⟩
                    · intro xs W hW hn
                      simp only [flowAct, zwc, zwn]
                      go_wp2_with (fail)
                      exact ⟨rfl, _, rfl, Below.refl _ _, rfl, fun h => h.elim⟩
                    · intro xs W hW hn
                      simp [flowNeeds, Region.binds] at hn
                      simp only [flowAct, zwc, zwn]
                      simp only [hn]
                      go_wp2_with (go_at_call 27; (with_reducible refine (HA0.out _).mono ?_); rintro e9 w9 ⟨rfl, rfl⟩)
                      exact ⟨rfl, _, rfl, Below.refl _ _, rfl, fun h => h.elim⟩
                    · intro xs W hW hn
                      simp only [flowAct, zwc, zwn]
                      go_wp2_with (fail)
                      exact ⟨rfl, _, rfl, Below.refl _ _, rfl, fun h => h.elim⟩
                    · intro xs W hW hn
                      simp only [flowAct, zwc, zwn]
                      go_wp2_with (fail)
                      exact ⟨rfl, _, rfl, Below.refl _ _, rfl, fun h => h.elim⟩
                    · intro xs W hW hn
                      simp [flowNeeds, Region.binds] at hn
                      simp only [flowAct, zwc, zwn]
                      try simp only [hn]
                      go_wp2_with (fail)
                      exact ⟨rfl, _, rfl, Below.refl _ _, rfl, fun h => h.elim⟩
                    · intro xs W hW hn
                      simp [flowNeeds, Region.binds] at hn
                      simp only [flowAct, zwc, zwn]
                      try simp only [hn]
                      go_wp2_with (fail)
                      exact ⟨rfl, _, rfl, Below.refl _ _, rfl, fun h => h.elim⟩
                    · intro xs W hW hn
                      obtain ⟨x0, x1⟩ := HXW.out W hW
                      simp [flowNeeds, Region.binds] at hn
                      simp only [flowAct, zwc, zwn]
                      try simp only [hn]
                      go_wp2_with (fail)
                      exact ⟨rfl, _, rfl, Below.refl _ _, rfl, fun h => h.elim⟩
                    · intro xs W hW hn
                      have hsz := HSZ.out
                      simp [flowNeeds, Region.binds] at hn
                      simp only [flowAct, zwc, zwn]
                      try simp only [hn]
                      go_wp2_with (fail)
                      exact ⟨rfl, _, rfl, Below.refl _ _, rfl, fun h => h.elim⟩
                  · intro xs W hW hall hfr
                    clear hfr
                    simp only [flowAll, and_true, Nat.zero_add, Nat.reduceAdd] at hall
                    obtain ⟨-, e1, -,-,-,-,-, e7⟩ := hall
                    simp only [flowAct, zwc, zwn, List.drop_succ_cons, List.drop_zero]
                    simp only [e1, e7]
                    have HB5 := Lib.hid (HB.out.trans (hW.mono HB.out.size))
                    clear hW e1 e7 HA0 HXW HSZ
                    go_wp2_with (go_at_call 27; (with_reducible refine (HA2.out _).mono ?_); rintro e9 w9 ⟨rfl, rfl⟩)
                    go_loopw [7, 13] (fun v j9 wz => ∃ (c q : Nat), c ≤ nc ∧ j9 = .int .i64 (c : Int) ∧ v = .int .i64 (q : Int) ∧ q ≤ 6001 ∧ (q ≤ 6000 → PI ∧ 10 * (i + 1) + 10 * c ≤ q) ∧ Below w.heap.size w wz) (fun _ j9 _ => nc - (intOf j9).toNat)
                    case atStart => exact ⟨0, _, by omega, rfl, rfl, satM_le _ _, fun h => ⟨(HST.out h).1, by have := (HST.out h).2; omega⟩, HB5.out⟩
                    case round =>
                      clear HA2 HST HB5 HB HLO hf hfi hq2
                      obtain ⟨c, q3, hc, rfl, rfl, hq3, hlo, hB⟩ := hrel
                      obtain ⟨x0, x1⟩ := HXA.out _ hB
                      have HB := Lib.hid hB
                      have HLO := Lib.hid hlo
                      clear hB hlo
                      by_cases hcn : c < nc
                      · have hci : (c : Int) < (nc : Int) := by omega
                        have hcc : (c : Int) < (cc : Int) := by omega
                        by_cases hf : 6000 < q3
                        · have hfi : ¬ (q3 : Int) ≤ 6000 := by omega
                          go_wp2
                          go_roundw
                          case rel => exact ⟨i + 1, q3, by omega, by go_num, rfl, hq3, fun h => absurd h (by omega), HB.out⟩
                          case measure => simp [intOf]; omega
                        · have hfi : (q3 : Int) ≤ 6000 := by omega
                          obtain ⟨bc, offc, rfl, hatc⟩ := HCA.out.at hcn
                          have hmem : csx.getD c Cl.zero ∈ csx := by rw [List.getD_eq_getElem?_getD, List.getElem?_eq_getElem (by rw [HCA.out.len]; exact hcn)]; exact List.getElem_mem _
                          have hcx := HTS.out _ hmem
                          obtain ⟨y, hy⟩ : ∃ y, csx.getD c Cl.zero = y := ⟨_, rfl⟩
                          rw [hy] at hatc hcx
                          obtain ⟨n9, s9, a9, b9, g9, tx, d9, f9⟩ := y
                          simp only at hcx
                          have HXW := Lib.hid (fun W (h : Below wr.heap.size wr W) => HXA.out W (HB.out.trans (h.mono HB.out.size)))
                          have HCW := Lib.hid (fun W (h : Below wr.heap.size wr W) => hatc W (HB.out.trans (h.mono HB.out.size)))
                          have HSZ := Lib.hid (show ((text tx).size : Int) = (tx.length : Int) by rw [text_size])
                          have HA0 := Lib.hid (fun W => show Calls Try.prog 27 #[.int .i64 (q3 : Int), .int .i64 10, .int .i64 6000] W _ from radd6_c q3 10 hq3 (by omega) W)
                          have HA2 := Lib.hid (fun W => radd6_c (satM q3 10) tx.length (satM_le _ _) hcx W)
                          have HST := Lib.hid (satM_keeps (k := tx.length) (show satM q3 10 ≤ 6000 → PI ∧ 10 * (i + 1) + 10 * (c + 1) ≤ satM q3 10 from fun h1 => by
                            obtain ⟨e, h2⟩ := satM_fits h1
                            have h3 := HLO.out (by omega)
                            exact ⟨h3.1, by have := h3.2; omega⟩))
                          clear hatc hmem hcx hy
                          go_upto_region 20 with (fail)
                          refine wp_region_flow_tail 12 [none,none,none,none,none,none,none,none,none,none,none,none,none,none,none,none,none,none,none,none,none,none,none,none,none,none,none,none,none,none,none,none,none,none,none,none,none,none,none,none,none,none,none,none,none,none,none,none,none,none,none,none,none,none,none,none,none,none,none,none,none,none,none,none,none,none,none,none,none,none,none,none,none,none,none,none,none,none,none,none,none,none,none,none,none,none,none,none,none,none,none,none,none,none,none,none,none,none,none,none,none,none,none,none,none,none, some 0, some 1, some 2, some 3, some 4, some 5, some 6, some 7, some 8, some 9, some 10, some 11, none,none,none,none] (fun i => [u106, u107, u108, u109, u110, u111, u112, u113, u114, u115, u116, u117].getD i undef) [(fun v _ => v = .int .i64 (q3 : Int)), (fun v _ => v = .int .i64 ((satM q3 10 : Nat) : Int)), (fun v _ => v = .slice (some ⟨bx, offx, none⟩) mx cx), (fun v _ => v = .int .i64 (i : Int)), (fun v _ => v = .pointer (some ⟨bx, offx + i * 2, none⟩)), (fun v _ => v = .pointer (some ⟨bx, offx + i * 2 + 1, none⟩)), (fun v _ => v = .slice (some ⟨bc, offc, none⟩) nc cc), (fun v _ => v = .int .i64 (c : Int)), (fun v _ => v = .pointer (some ⟨bc, offc + c * 8, none⟩)), (fun v _ => v = .pointer (some ⟨bc, offc + c * 8 + 5, none⟩)), (fun v _ => v = .string (text tx)), (fun v _ => v = .int .i64 (tx.length : Int))] (fun _ => False) (by kernel_rfl) (by kernel_rfl) (by kernel_rfl) rfl rfl rfl ?_ ?_ ?_
                          · intro g hg v X Y hX hY hv
                            simp only [List.mem_cons, List.not_mem_nil, or_false] at hg
                            rcases hg with rfl | rfl | rfl | rfl | rfl | rfl | rfl | rfl | rfl | rfl | rfl | rfl
                            all_goals first
                              | exact hv
                              | exact hv.kept hY
                          · simp only [flowOpsF, List.take_succ_cons, List.take_zero, and_true]
                            refine ⟨?_,?_,?_,?_,?_,?_,?_,?_,?_,?_,?_,?_⟩
                            · intro xs W hW hn
                              simp only [flowAct, zwc, zwn]
                              go_wp2_with (fail)
                              exact ⟨rfl, _, rfl, Below.refl _ _, rfl, fun h => h.elim⟩
                            · intro xs W hW hn
                              simp [flowNeeds, Region.binds] at hn
                              simp only [flowAct, zwc, zwn]
                              simp only [hn]
                              go_wp2_with (go_at_call 27; (with_reducible refine (HA0.out _).mono ?_); rintro e9 w9 ⟨rfl, rfl⟩)
                              exact ⟨rfl, _, rfl, Below.refl _ _, rfl, fun h => h.elim⟩
                            · intro xs W hW hn
                              simp only [flowAct, zwc, zwn]
                              go_wp2_with (fail)
                              exact ⟨rfl, _, rfl, Below.refl _ _, rfl, fun h => h.elim⟩
                            · intro xs W hW hn
                              simp only [flowAct, zwc, zwn]
                              go_wp2_with (fail)
                              exact ⟨rfl, _, rfl, Below.refl _ _, rfl, fun h => h.elim⟩
                            · intro xs W hW hn
                              simp [flowNeeds, Region.binds] at hn
                              simp only [flowAct, zwc, zwn]
                              try simp only [hn]
                              go_wp2_with (fail)
                              exact ⟨rfl, _, rfl, Below.refl _ _, rfl, fun h => h.elim⟩
                            · intro xs W hW hn
                              simp [flowNeeds, Region.binds] at hn
                              simp only [flowAct, zwc, zwn]
                              try simp only [hn]
                              go_wp2_with (fail)
                              exact ⟨rfl, _, rfl, Below.refl _ _, rfl, fun h => h.elim⟩
                            · intro xs W hW hn
                              obtain ⟨x0, x1⟩ := HXW.out W hW
                              simp [flowNeeds, Region.binds] at hn
                              simp only [flowAct, zwc, zwn]
                              try simp only [hn]
                              go_wp2_with (fail)
                              exact ⟨rfl, _, rfl, Below.refl _ _, rfl, fun h => h.elim⟩
                            · intro xs W hW hn
                              simp only [flowAct, zwc, zwn]
                              go_wp2_with (fail)
                              exact ⟨rfl, _, rfl, Below.refl _ _, rfl, fun h => h.elim⟩
                            · intro xs W hW hn
                              simp [flowNeeds, Region.binds] at hn
                              simp only [flowAct, zwc, zwn]
                              try simp only [hn]
                              go_wp2_with (fail)
                              exact ⟨rfl, _, rfl, Below.refl _ _, rfl, fun h => h.elim⟩
                            · intro xs W hW hn
                              simp [flowNeeds, Region.binds] at hn
                              simp only [flowAct, zwc, zwn]
                              try simp only [hn]
                              go_wp2_with (fail)
                              exact ⟨rfl, _, rfl, Below.refl _ _, rfl, fun h => h.elim⟩
                            · intro xs W hW hn
                              obtain ⟨p0, p1, p2, p3, p4, p5, p6, p7⟩ := HCW.out W hW
                              simp [flowNeeds, Region.binds] at hn
                              simp only [flowAct, zwc, zwn]
                              try simp only [hn]
                              go_wp2_with (fail)
                              exact ⟨rfl, _, rfl, Below.refl _ _, rfl, fun h => h.elim⟩
                            · intro xs W hW hn
                              have hsz := HSZ.out
                              simp [flowNeeds, Region.binds] at hn
                              simp only [flowAct, zwc, zwn]
                              try simp only [hn]
                              go_wp2_with (fail)
                              exact ⟨rfl, _, rfl, Below.refl _ _, rfl, fun h => h.elim⟩
                          · intro xs W hW hall hfr
                            clear hfr
                            simp only [flowAll, and_true, Nat.zero_add, Nat.reduceAdd] at hall
                            obtain ⟨-, e1, -,-,-,-,-,-,-,-,-, e11⟩ := hall
                            simp only [flowAct, zwc, zwn, List.drop_succ_cons, List.drop_zero]
                            simp only [e1, e11]
                            have HB5 := Lib.hid (HB.out.trans (hW.mono HB.out.size))
                            clear hW e1 e11 HA0 HXW HCW HSZ
                            go_wp2_with (go_at_call 27; (with_reducible refine (HA2.out _).mono ?_); rintro e9 w9 ⟨rfl, rfl⟩)
                            go_roundw
                            case rel => exact ⟨c + 1, _, by omega, by go_num, rfl, satM_le _ _, HST.out, HB5.out⟩
                            case measure => simp [intOf]; omega
                      · obtain rfl : c = nc := by omega
                        have HL8 := Lib.hid (show q3 ≤ 6000 → (PP ∧ ∀ i', i' < i + 1 → (LX.getD i' Rw.zero).cs.length ≤ 600) ∧ 10 * (i + 1) ≤ q3 from fun h => by
                          obtain ⟨h1, h2⟩ := HLO.out h
                          rw [← HPI.out] at h1
                          refine ⟨⟨h1.1, fun i' hi' => ?_⟩, by omega⟩
                          by_cases e : i' = i
                          · subst e; rw [HNC.out]; omega
                          · exact h1.2 i' (by omega))
                        go_wp2
                        go_roundw
                        case rel => exact ⟨i + 1, q3, by omega, by go_num, rfl, hq3, HL8.out, HB.out⟩
                        case measure => simp [intOf]; omega
              · obtain rfl : i = mx := by omega
                have HN := Lib.hid (show q2 ≤ 6000 → m ≤ 600 ∧ ∀ i', i' < j + 1 → LightR (F i') from fun h => by
                  obtain ⟨⟨h1, h8⟩, h2⟩ := HLO.out h
                  rw [← HPP.out] at h1
                  refine ⟨h1.1, fun i' hi' => ?_⟩
                  by_cases e : i' = j
                  · subst e; rw [HFJ.out]
                    exact ⟨by show i ≤ 600; omega, fun r hr => by
                      obtain ⟨p, hp, rfl⟩ := List.getElem_of_mem (show r ∈ LX from hr)
                      have h9 := h8 p (by have := HRW.out.1.len; omega)
                      rwa [List.getD_eq_getElem?_getD, List.getElem?_eq_getElem hp] at h9⟩
                  · exact h1.2 i' (by omega))
                go_wp2
                go_roundw
                case rel => exact ⟨j + 1, q2, by omega, by go_num, rfl, hq2, HN.out, HB.out⟩
                case measure => simp [intOf]; omega
          · obtain rfl : j = nr := by omega
            clear hB hlo
            go_wp2
            go_ret
            exact ⟨_, rfl, fun h => HLO.out (by have := of_decide_eq_true h; omega), HB.out⟩
      · have hfi : (q : Int) ≤ 6000 := by omega
        go_wp2
        go_loopw [7, 69] (fun v9 j9 wz => ∃ (j q : Nat), j ≤ nr ∧ j9 = .int .i64 (j : Int) ∧ v9 = .int .i64 (q : Int) ∧ q ≤ 6001 ∧ (q ≤ 6000 → m ≤ 600 ∧ ∀ i, i < j → LightR (F i)) ∧ Below w.heap.size w wz) (fun _ j9 _ => nr - (intOf j9).toNat)
        case atStart => exact ⟨0, q, by omega, rfl, rfl, hq, fun h => ⟨by have := HLO.out h; omega, fun i hi => by omega⟩, HB.out⟩
        case round =>
          clear HLO HB hq hf hfi
          obtain ⟨j, q1, hj, rfl, rfl, hq1, hlo, hB⟩ := hrel
          have HB := Lib.hid hB
          have HLO := Lib.hid hlo
          by_cases hjn : j < nr
          · have hji : (j : Int) < (nr : Int) := by omega
            have hjc : (j : Int) < (cr : Int) := by omega
            obtain ⟨hce, hrw, hsh⟩ := HF.out j hjn
            obtain ⟨⟨ax, mx, cx, LX⟩, hFj⟩ : ∃ z, F j = z := ⟨_, rfl⟩
            rw [hFj] at hce hrw hsh
            simp only at hce hrw hsh
            have hcell := (hB.cell (World.block_lt_of_cell? w _ hce)).trans hce
            have HFJ := Lib.hid hFj
            have HRW := Lib.hid hrw
            have HRS := Lib.hid hsh
            have hmxl := hrw.1.le
            have hmxm := hrw.1.max
            obtain ⟨PP, hPP⟩ : ∃ z : Prop, (m ≤ 600 ∧ ∀ i, i < j → LightR (F i)) = z := ⟨_, rfl⟩
            have HPP := Lib.hid hPP
            rw [hPP] at HLO
            clear hce hrw hsh hFj hPP hB hlo
            go_upto_region 14 with (fail)
            clear hcell
            go_loopw [7, 12] (fun v j9 wz => ∃ (i q : Nat), i ≤ mx ∧ j9 = .int .i64 (i : Int) ∧ v = .int .i64 (q : Int) ∧ q ≤ 6001 ∧ (q ≤ 6000 → (PP ∧ ∀ i', i' < i → (LX.getD i' Rw.zero).cs.length ≤ 600) ∧ 10 * i ≤ q) ∧ Below w.heap.size w wz) (fun _ j9 _ => mx - (intOf j9).toNat)
            case atStart => exact ⟨0, q1, by omega, rfl, rfl, hq1, fun h => ⟨⟨HLO.out h, fun i' hi' => by omega⟩, by omega⟩, HB.out⟩
            case round =>
              clear HLO HB hq1
              obtain ⟨i, q2, hi, rfl, rfl, hq2, hlo, hB⟩ := hrel
              have HB := Lib.hid hB
              have HLO := Lib.hid hlo
              clear hB hlo
              by_cases him : i < mx
              · have hii : (i : Int) < (mx : Int) := by omega
                have hic : (i : Int) < (cx : Int) := by omega
                by_cases hf : 6000 < q2
                · have hfi : ¬ (q2 : Int) ≤ 6000 := by omega
                  go_wp2
                  go_roundw
                  case rel => exact ⟨j + 1, q2, by omega, by go_num, rfl, hq2, fun h => absurd h (by omega), HB.out⟩
                  case measure => simp [intOf]; omega
                · have hfi : (q2 : Int) ≤ 6000 := by omega
                  obtain ⟨bx, offx, ac, nc, cc, rfl, hu, hnc, hca, hatx⟩ := HRW.out.place him
                  have HNC := Lib.hid hnc.symm
                  obtain ⟨PI, hPI⟩ : ∃ z : Prop, (PP ∧ ∀ i', i' < i → (LX.getD i' Rw.zero).cs.length ≤ 600) = z := ⟨_, rfl⟩
                  have HPI := Lib.hid hPI
                  rw [hPI] at HLO
                  clear hPI
                  have hmem : LX.getD i Rw.zero ∈ LX := by rw [List.getD_eq_getElem?_getD, List.getElem?_eq_getElem (by rw [HRW.out.1.len]; exact him)]; exact List.getElem_mem _
                  have hkx := HRS.out _ hmem
                  obtain ⟨y, hy⟩ : ∃ y, LX.getD i Rw.zero = y := ⟨_, rfl⟩
                  rw [hy] at hatx hkx hca hnc
                  obtain ⟨kx, ux, csx⟩ := y
                  simp only at hatx hkx hca hnc
                  have hncl := hca.le
                  have hncm := hca.max
                  have HTS := Lib.hid hkx.2
                  have HCA := Lib.hid hca
                  have HXA := Lib.hid hatx
                  have HXW := Lib.hid (fun W (h : Below wr.heap.size wr W) => hatx W (HB.out.trans (h.mono HB.out.size)))
                  have HSZ := Lib.hid (show ((text kx).size : Int) = (kx.length : Int) by rw [text_size])
                  have HA0 := Lib.hid (fun W => show Calls Try.prog 27 #[.int .i64 (q2 : Int), .int .i64 10, .int .i64 6000] W _ from radd6_c q2 10 hq2 (by omega) W)
                  have HA2 := Lib.hid (fun W => radd6_c (satM q2 10) kx.length (satM_le _ _) hkx.1 W)
                  have HST := Lib.hid (satM_keeps (k := kx.length) (show satM q2 10 ≤ 6000 → PI ∧ 10 * (i + 1) ≤ satM q2 10 from fun h1 => by
                    obtain ⟨e, h2⟩ := satM_fits h1
                    have h3 := HLO.out (by omega)
                    exact ⟨h3.1, by have := h3.2; omega⟩))
                  clear hu hnc hca hatx hmem hkx hy
                  go_upto_region 16 with (fail)
                  refine wp_region_flow_tail 8 [none,none,none,none,none,none,none,none,none,none,none,none,none,none,none,none,none,none,none,none,none,none,none,none,none,none,none,none,none,none,none,none,none,none,none,none,none,none,none,none,none,none,none,none,none,none,none,none,none,none,none,none,none,none,none,none,none,none,none,none,none,none,none,none,none,none,none,none,none,none,none,none,none,none,none,none,none,none,none,none,none,none,none, some 0, some 1, some 2, some 3, some 4, some 5, some 6, some 7, none,none,none,none,none,none,none,none,none,none,none,none,none,none,none,none,none,none,none,none,none,none,none,none,none,none,none,none,none,none,none] (fun i => [u83, u84, u85, u86, u87, u88, u89, u90].getD i undef) [(fun v _ => v = .int .i64 (q2 : Int)), (fun v _ => v = .int .i64 ((satM q2 10 : Nat) : Int)), (fun v _ => v = .slice (some ⟨bx, offx, none⟩) mx cx), (fun v _ => v = .int .i64 (i : Int)), (fun v _ => v = .pointer (some ⟨bx, offx + i * 2, none⟩)), (fun v _ => v = .pointer (some ⟨bx, offx + i * 2, none⟩)), (fun v _ => v = .string (text kx)), (fun v _ => v = .int .i64 (kx.length : Int))] (fun _ => False) (by kernel_rfl) (by kernel_rfl) (by kernel_rfl) rfl rfl rfl ?_ ?_ ?_
                  · intro g hg v X Y hX hY hv
                    simp only [List.mem_cons, List.not_mem_nil, or_false] at hg
                    rcases hg with rfl | rfl | rfl | rfl | rfl | rfl | rfl | rfl
                    all_goals first
                      | exact hv
                      | exact hv.kept hY
                  · simp only [flowOpsF, List.take_succ_cons, List.take_zero, and_true]
                    refine ⟨?_,?_,?_,?_,?_,?_,?_,?_⟩
                    · intro xs W hW hn
                      simp only [flowAct, zwc, zwn]
                      go_wp2_with (fail)
                      exact ⟨rfl, _, rfl, Below.refl _ _, rfl, fun h => h.elim⟩
                    · intro xs W hW hn
                      simp [flowNeeds, Region.binds] at hn
                      simp only [flowAct, zwc, zwn]
                      simp only [hn]
                      go_wp2_with (go_at_call 27; (with_reducible refine (HA0.out _).mono ?_); rintro e9 w9 ⟨rfl, rfl⟩)
                      exact ⟨rfl, _, rfl, Below.refl _ _, rfl, fun h => h.elim⟩
                    · intro xs W hW hn
                      simp only [flowAct, zwc, zwn]
                      go_wp2_with (fail)
                      exact ⟨rfl, _, rfl, Below.refl _ _, rfl, fun h => h.elim⟩
                    · intro xs W hW hn
                      simp only [flowAct, zwc, zwn]
                      go_wp2_with (fail)
                      exact ⟨rfl, _, rfl, Below.refl _ _, rfl, fun h => h.elim⟩
                    · intro xs W hW hn
                      simp [flowNeeds, Region.binds] at hn
                      simp only [flowAct, zwc, zwn]
                      try simp only [hn]
                      go_wp2_with (fail)
                      exact ⟨rfl, _, rfl, Below.refl _ _, rfl, fun h => h.elim⟩
                    · intro xs W hW hn
                      simp [flowNeeds, Region.binds] at hn
                      simp only [flowAct, zwc, zwn]
                      try simp only [hn]
                      go_wp2_with (fail)
                      exact ⟨rfl, _, rfl, Below.refl _ _, rfl, fun h => h.elim⟩
                    · intro xs W hW hn
                      obtain ⟨x0, x1⟩ := HXW.out W hW
                      simp [flowNeeds, Region.binds] at hn
                      simp only [flowAct, zwc, zwn]
                      try simp only [hn]
                      go_wp2_with (fail)
                      exact ⟨rfl, _, rfl, Below.refl _ _, rfl, fun h => h.elim⟩
                    · intro xs W hW hn
                      have hsz := HSZ.out
                      simp [flowNeeds, Region.binds] at hn
                      simp only [flowAct, zwc, zwn]
                      try simp only [hn]
                      go_wp2_with (fail)
                      exact ⟨rfl, _, rfl, Below.refl _ _, rfl, fun h => h.elim⟩
                  · intro xs W hW hall hfr
                    clear hfr
                    simp only [flowAll, and_true, Nat.zero_add, Nat.reduceAdd] at hall
                    obtain ⟨-, e1, -,-,-,-,-, e7⟩ := hall
                    simp only [flowAct, zwc, zwn, List.drop_succ_cons, List.drop_zero]
                    simp only [e1, e7]
                    have HB5 := Lib.hid (HB.out.trans (hW.mono HB.out.size))
                    clear hW e1 e7 HA0 HXW HSZ
                    go_wp2_with (go_at_call 27; (with_reducible refine (HA2.out _).mono ?_); rintro e9 w9 ⟨rfl, rfl⟩)
                    go_loopw [7, 13] (fun v j9 wz => ∃ (c q : Nat), c ≤ nc ∧ j9 = .int .i64 (c : Int) ∧ v = .int .i64 (q : Int) ∧ q ≤ 6001 ∧ (q ≤ 6000 → PI ∧ 10 * (i + 1) + 10 * c ≤ q) ∧ Below w.heap.size w wz) (fun _ j9 _ => nc - (intOf j9).toNat)
                    case atStart => exact ⟨0, _, by omega, rfl, rfl, satM_le _ _, fun h => ⟨(HST.out h).1, by have := (HST.out h).2; omega⟩, HB5.out⟩
                    case round =>
                      clear HA2 HST HB5 HB HLO hf hfi hq2
                      obtain ⟨c, q3, hc, rfl, rfl, hq3, hlo, hB⟩ := hrel
                      obtain ⟨x0, x1⟩ := HXA.out _ hB
                      have HB := Lib.hid hB
                      have HLO := Lib.hid hlo
                      clear hB hlo
                      by_cases hcn : c < nc
                      · have hci : (c : Int) < (nc : Int) := by omega
                        have hcc : (c : Int) < (cc : Int) := by omega
                        by_cases hf : 6000 < q3
                        · have hfi : ¬ (q3 : Int) ≤ 6000 := by omega
                          go_wp2
                          go_roundw
                          case rel => exact ⟨i + 1, q3, by omega, by go_num, rfl, hq3, fun h => absurd h (by omega), HB.out⟩
                          case measure => simp [intOf]; omega
                        · have hfi : (q3 : Int) ≤ 6000 := by omega
                          obtain ⟨bc, offc, rfl, hatc⟩ := HCA.out.at hcn
                          have hmem : csx.getD c Cl.zero ∈ csx := by rw [List.getD_eq_getElem?_getD, List.getElem?_eq_getElem (by rw [HCA.out.len]; exact hcn)]; exact List.getElem_mem _
                          have hcx := HTS.out _ hmem
                          obtain ⟨y, hy⟩ : ∃ y, csx.getD c Cl.zero = y := ⟨_, rfl⟩
                          rw [hy] at hatc hcx
                          obtain ⟨n9, s9, a9, b9, g9, tx, d9, f9⟩ := y
                          simp only at hcx
                          have HXW := Lib.hid (fun W (h : Below wr.heap.size wr W) => HXA.out W (HB.out.trans (h.mono HB.out.size)))
                          have HCW := Lib.hid (fun W (h : Below wr.heap.size wr W) => hatc W (HB.out.trans (h.mono HB.out.size)))
                          have HSZ := Lib.hid (show ((text tx).size : Int) = (tx.length : Int) by rw [text_size])
                          have HA0 := Lib.hid (fun W => show Calls Try.prog 27 #[.int .i64 (q3 : Int), .int .i64 10, .int .i64 6000] W _ from radd6_c q3 10 hq3 (by omega) W)
                          have HA2 := Lib.hid (fun W => radd6_c (satM q3 10) tx.length (satM_le _ _) hcx W)
                          have HST := Lib.hid (satM_keeps (k := tx.length) (show satM q3 10 ≤ 6000 → PI ∧ 10 * (i + 1) + 10 * (c + 1) ≤ satM q3 10 from fun h1 => by
                            obtain ⟨e, h2⟩ := satM_fits h1
                            have h3 := HLO.out (by omega)
                            exact ⟨h3.1, by have := h3.2; omega⟩))
                          clear hatc hmem hcx hy
                          go_upto_region 20 with (fail)
                          refine wp_region_flow_tail 12 [none,none,none,none,none,none,none,none,none,none,none,none,none,none,none,none,none,none,none,none,none,none,none,none,none,none,none,none,none,none,none,none,none,none,none,none,none,none,none,none,none,none,none,none,none,none,none,none,none,none,none,none,none,none,none,none,none,none,none,none,none,none,none,none,none,none,none,none,none,none,none,none,none,none,none,none,none,none,none,none,none,none,none,none,none,none,none,none,none,none,none,none,none,none,none,none,none,none,none,none,none,none,none,none,none,none, some 0, some 1, some 2, some 3, some 4, some 5, some 6, some 7, some 8, some 9, some 10, some 11, none,none,none,none] (fun i => [u106, u107, u108, u109, u110, u111, u112, u113, u114, u115, u116, u117].getD i undef) [(fun v _ => v = .int .i64 (q3 : Int)), (fun v _ => v = .int .i64 ((satM q3 10 : Nat) : Int)), (fun v _ => v = .slice (some ⟨bx, offx, none⟩) mx cx), (fun v _ => v = .int .i64 (i : Int)), (fun v _ => v = .pointer (some ⟨bx, offx + i * 2, none⟩)), (fun v _ => v = .pointer (some ⟨bx, offx + i * 2 + 1, none⟩)), (fun v _ => v = .slice (some ⟨bc, offc, none⟩) nc cc), (fun v _ => v = .int .i64 (c : Int)), (fun v _ => v = .pointer (some ⟨bc, offc + c * 8, none⟩)), (fun v _ => v = .pointer (some ⟨bc, offc + c * 8 + 5, none⟩)), (fun v _ => v = .string (text tx)), (fun v _ => v = .int .i64 (tx.length : Int))] (fun _ => False) (by kernel_rfl) (by kernel_rfl) (by kernel_rfl) rfl rfl rfl ?_ ?_ ?_
                          · intro g hg v X Y hX hY hv
                            simp only [List.mem_cons, List.not_mem_nil, or_false] at hg
                            rcases hg with rfl | rfl | rfl | rfl | rfl | rfl | rfl | rfl | rfl | rfl | rfl | rfl
                            all_goals first
                              | exact hv
                              | exact hv.kept hY
                          · simp only [flowOpsF, List.take_succ_cons, List.take_zero, and_true]
                            refine ⟨?_,?_,?_,?_,?_,?_,?_,?_,?_,?_,?_,?_⟩
                            · intro xs W hW hn
                              simp only [flowAct, zwc, zwn]
                              go_wp2_with (fail)
                              exact ⟨rfl, _, rfl, Below.refl _ _, rfl, fun h => h.elim⟩
                            · intro xs W hW hn
                              simp [flowNeeds, Region.binds] at hn
                              simp only [flowAct, zwc, zwn]
                              simp only [hn]
                              go_wp2_with (go_at_call 27; (with_reducible refine (HA0.out _).mono ?_); rintro e9 w9 ⟨rfl, rfl⟩)
                              exact ⟨rfl, _, rfl, Below.refl _ _, rfl, fun h => h.elim⟩
                            · intro xs W hW hn
                              simp only [flowAct, zwc, zwn]
                              go_wp2_with (fail)
                              exact ⟨rfl, _, rfl, Below.refl _ _, rfl, fun h => h.elim⟩
                            · intro xs W hW hn
                              simp only [flowAct, zwc, zwn]
                              go_wp2_with (fail)
                              exact ⟨rfl, _, rfl, Below.refl _ _, rfl, fun h => h.elim⟩
                            · intro xs W hW hn
                              simp [flowNeeds, Region.binds] at hn
                              simp only [flowAct, zwc, zwn]
                              try simp only [hn]
                              go_wp2_with (fail)
                              exact ⟨rfl, _, rfl, Below.refl _ _, rfl, fun h => h.elim⟩
                            · intro xs W hW hn
                              simp [flowNeeds, Region.binds] at hn
                              simp only [flowAct, zwc, zwn]
                              try simp only [hn]
                              go_wp2_with (fail)
                              exact ⟨rfl, _, rfl, Below.refl _ _, rfl, fun h => h.elim⟩
                            · intro xs W hW hn
                              obtain ⟨x0, x1⟩ := HXW.out W hW
                              simp [flowNeeds, Region.binds] at hn
                              simp only [flowAct, zwc, zwn]
                              try simp only [hn]
                              go_wp2_with (fail)
                              exact ⟨rfl, _, rfl, Below.refl _ _, rfl, fun h => h.elim⟩
                            · intro xs W hW hn
                              simp only [flowAct, zwc, zwn]
                              go_wp2_with (fail)
                              exact ⟨rfl, _, rfl, Below.refl _ _, rfl, fun h => h.elim⟩
                            · intro xs W hW hn
                              simp [flowNeeds, Region.binds] at hn
                              simp only [flowAct, zwc, zwn]
                              try simp only [hn]
                              go_wp2_with (fail)
                              exact ⟨rfl, _, rfl, Below.refl _ _, rfl, fun h => h.elim⟩
                            · intro xs W hW hn
                              simp [flowNeeds, Region.binds] at hn
                              simp only [flowAct, zwc, zwn]
                              try simp only [hn]
                              go_wp2_with (fail)
                              exact ⟨rfl, _, rfl, Below.refl _ _, rfl, fun h => h.elim⟩
                            · intro xs W hW hn
                              obtain ⟨p0, p1, p2, p3, p4, p5, p6, p7⟩ := HCW.out W hW
                              simp [flowNeeds, Region.binds] at hn
                              simp only [flowAct, zwc, zwn]
                              try simp only [hn]
                              go_wp2_with (fail)
                              exact ⟨rfl, _, rfl, Below.refl _ _, rfl, fun h => h.elim⟩
                            · intro xs W hW hn
                              have hsz := HSZ.out
                              simp [flowNeeds, Region.binds] at hn
                              simp only [flowAct, zwc, zwn]
                              try simp only [hn]
                              go_wp2_with (fail)
                              exact ⟨rfl, _, rfl, Below.refl _ _, rfl, fun h => h.elim⟩
                          · intro xs W hW hall hfr
                            clear hfr
                            simp only [flowAll, and_true, Nat.zero_add, Nat.reduceAdd] at hall
                            obtain ⟨-, e1, -,-,-,-,-,-,-,-,-, e11⟩ := hall
                            simp only [flowAct, zwc, zwn, List.drop_succ_cons, List.drop_zero]
                            simp only [e1, e11]
                            have HB5 := Lib.hid (HB.out.trans (hW.mono HB.out.size))
                            clear hW e1 e11 HA0 HXW HCW HSZ
                            go_wp2_with (go_at_call 27; (with_reducible refine (HA2.out _).mono ?_); rintro e9 w9 ⟨rfl, rfl⟩)
                            go_roundw
                            case rel => exact ⟨c + 1, _, by omega, by go_num, rfl, satM_le _ _, HST.out, HB5.out⟩
                            case measure => simp [intOf]; omega
                      · obtain rfl : c = nc := by omega
                        have HL8 := Lib.hid (show q3 ≤ 6000 → (PP ∧ ∀ i', i' < i + 1 → (LX.getD i' Rw.zero).cs.length ≤ 600) ∧ 10 * (i + 1) ≤ q3 from fun h => by
                          obtain ⟨h1, h2⟩ := HLO.out h
                          rw [← HPI.out] at h1
                          refine ⟨⟨h1.1, fun i' hi' => ?_⟩, by omega⟩
                          by_cases e : i' = i
                          · subst e; rw [HNC.out]; omega
                          · exact h1.2 i' (by omega))
                        go_wp2
                        go_roundw
                        case rel => exact ⟨i + 1, q3, by omega, by go_num, rfl, hq3, HL8.out, HB.out⟩
                        case measure => simp [intOf]; omega
              · obtain rfl : i = mx := by omega
                have HN := Lib.hid (show q2 ≤ 6000 → m ≤ 600 ∧ ∀ i', i' < j + 1 → LightR (F i') from fun h => by
                  obtain ⟨⟨h1, h8⟩, h2⟩ := HLO.out h
                  rw [← HPP.out] at h1
                  refine ⟨h1.1, fun i' hi' => ?_⟩
                  by_cases e : i' = j
                  · subst e; rw [HFJ.out]
                    exact ⟨by show i ≤ 600; omega, fun r hr => by
                      obtain ⟨p, hp, rfl⟩ := List.getElem_of_mem (show r ∈ LX from hr)
                      have h9 := h8 p (by have := HRW.out.1.len; omega)
                      rwa [List.getD_eq_getElem?_getD, List.getElem?_eq_getElem hp] at h9⟩
                  · exact h1.2 i' (by omega))
                go_wp2
                go_roundw
                case rel => exact ⟨j + 1, q2, by omega, by go_num, rfl, hq2, HN.out, HB.out⟩
                case measure => simp [intOf]; omega
          · obtain rfl : j = nr := by omega
            clear hB hlo
            go_wp2
            go_ret
            exact ⟨_, rfl, fun h => HLO.out (by have := of_decide_eq_true h; omega), HB.out⟩
end Go.Proofs.Ytidbjmkfmfojdaa
end

