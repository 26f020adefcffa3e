/-
  Merged: A7 AD AE AF AG AJ AK AL JO H1 AW.
-/
import Derived.Deep.QuietTactic
import Derived.StillTail
import Derived.Lib.QuietBelow
import Derived.Test.YtidbjmkfmfojdaaRows
import Derived.WalkKit
import Derived.Lib.Hide
import Derived.BigQuiet
import Derived.BigRegion
import Derived.Deep.Cut
import Derived.Deep.MidRow
import Derived.Great.BuildSlice
import Derived.Outline
import Derived.OwnWalk
import Derived.Laws.Rows
import Derived.ChangeKeysEq
import Derived.Laws.StructEq
import Derived.WalkSpells
import Derived.WalkLawsBesides
import Derived.Laws.CopyOwn
import Derived.WalkSmall
import Derived.Lib.LaidTab
import Derived.Deep.RegionWith
import Derived.Lib.MinMax
import Derived.WideShapes
import Derived.ChangeSame
import Derived.OpenShut
import Derived.Deep.Slices
import Derived.Deep.AppendSrc
import Derived.Lib.AppendZerosOnto
import Derived.Lib.SliceRun
import Derived.Lib.Walk
import Derived.Lib.OthersKept
import Derived.Laws.RangeAny
import Derived.Maps.OwnOps
import Derived.Maps.Views
import Derived.ChangeSlices
import Derived.ChangeArms
import Derived.Deep.DeepAppendWide
import Derived.OrdersIn
import Derived.TacticsIn
import Derived.RangeFuncNested
import Derived.RangeFuncBound
import Derived.RangeFuncCalls
import Derived.RangeFuncLeaves
import Derived.Maps.AppendAt
import Derived.Shelf.Abstract
import Derived.OwnWalkIn
import Derived.TacticsInMore
import Derived.LoopNIn
import Derived.LoopIn
import Derived.Test.YtidbjmkfmfojdaaSK4

section
namespace Go.Proofs.Ytidbjmkfmfojdaa
open Go.RowKit Go Go.Sort
set_option linter.unusedVariables false
set_option maxRecDepth 20000

/-- Strings of a row that a process can hold. -/
def RShort (L : List Rw) : Prop := ∀ r ∈ L, r.k.length ≤ 9223372036854775807 ∧ ∀ c ∈ r.cs, c.t.length ≤ 9223372036854775807
theorem mAt_row {gs : List Grp} {R : List Rp} {i : Nat} (h : ¬ rgoodS gs (R.getD i ([], [])).1 (R.getD i ([], [])).2 = 0) : mAt gs R i = rgoodS gs (R.getD i ([], [])).1 (R.getD i ([], [])).2 := by unfold mAt; rw [if_pos h]
theorem mAt_bare {gs : List Grp} {R : List Rp} {i : Nat} (h : rgoodS gs (R.getD i ([], [])).1 (R.getD i ([], [])).2 = 0) (h2 : bareS (R.getD i ([], [])).2 = true) : mAt gs R i = 100 := by unfold mAt; rw [if_neg (not_not_intro h), h2]; rfl
theorem mAt_key {gs : List Grp} {R : List Rp} {i : Nat} (h : rgoodS gs (R.getD i ([], [])).1 (R.getD i ([], [])).2 = 0) (hi : 0 < i) (h2 : Op.bytesLess (R.getD (i - 1) ([], [])).1 (R.getD i ([], [])).1 = false) : mAt gs R i = 100 := by
  unfold mAt
  rw [if_neg (not_not_intro h), h2]
  simp [hi]

set_option maxRecDepth 100000 in
set_option maxHeartbeats 12800000 in
theorem rmgood_c {w : World} {x xl : Option Addr} {n1 cap m capl : Nat} {gs : List Grp} {L : List Rw} (hg : Grs w x n1 cap gs) (hs : ∀ g ∈ gs, g.1.length ≤ 9223372036854775807) (hl : RwsAt w xl m capl L) (hsh : RShort L) :
    Calls Try.prog 35 #[.slice x n1 cap, .slice xl m capl] w (Tells (.int .i64 (mgoodS gs (L.map Rw.pr))) w) := by
  have hll := hl.1.len
  have hle := hl.1.le
  have hmax := hl.1.max
  obtain ⟨RV, hRV⟩ : ∃ z, mgoodS gs (L.map Rw.pr) = z := ⟨_, rfl⟩
  have HPO := Lib.hid (fun (h : ¬ pgoodS gs = 0) => hRV.symm.trans (m_pol (R := L.map Rw.pr) h))
  have HYES := Lib.hid (fun (h : pgoodS gs = 0) (ha : ∀ k, k < m → mAt gs (L.map Rw.pr) k = 0) => hRV.symm.trans (m_yes h (fun k hk => ha k (by rw [List.length_map] at hk; omega))))
  have HBAD := Lib.hid (fun (k : Nat) (hk : k < m) (h : pgoodS gs = 0) (ha : ∀ j, j < k → mAt gs (L.map Rw.pr) j = 0) (hb : ¬ mAt gs (L.map Rw.pr) k = 0) => hRV.symm.trans (m_bad h ha (by rw [List.length_map]; omega) hb))
  have HPR := Lib.hid (fun (k : Nat) (hk : k < m) => prs_at (L := L) (j := k) (by omega))
  have HGD := Lib.hid (fun W (h : Below w.heap.size w W) (k : Nat) (hk : k < m) (u : Option Addr) (n c : Nat) (hu : Cls W u n c (L.getD k Rw.zero).cs) => rrowgood_c (hg.below h) hs hu (hsh _ (rw_mem (L := L) (k := k) (by omega))).2 (L.getD k Rw.zero).k (hsh _ (rw_mem (L := L) (k := k) (by omega))).1)
  have HPG := Lib.hid (rpgood_c hg hs)
  have HL := Lib.hid hl
  rw [hRV]
  obtain ⟨PG, hPG⟩ : ∃ z, pgoodS gs = z := ⟨_, rfl⟩
  rw [hPG] at HPO HYES HBAD HPG
  clear hRV hPG hl hsh hg hs
  go_enter Try.func35, Try.ntmps35
  by_cases h0 : PG = 0
  · subst h0
    go_upto_region 4 with (go_at_call 62; (with_reducible refine HPG.out.mono ?_); rintro e9 w9 ⟨rfl, hb9⟩; have HB9 := Lib.hid hb9; clear hb9)
    go_wp2
    clear HPO HPG
    go_loopw [5, 6] (fun _ j wr => ∃ i : Nat, i ≤ m ∧ j = .int .i64 (i : Int) ∧ (∀ k, k < i → mAt gs (L.map Rw.pr) k = 0) ∧ Below w.heap.size w wr) (fun _ j _ => m - (intOf j).toNat)
    case atStart => exact ⟨0, by omega, rfl, fun k hk => absurd hk (by omega), HB9.out⟩
    case round =>
      clear HB9
      obtain ⟨i, hi, rfl, hz, hbx⟩ := hrel
      have HZ := Lib.hid hz
      have HBx := Lib.hid hbx
      clear hz hbx
      by_cases hlt : i < m
      · have hii : (i : Int) < (m : Int) := by omega
        have hic : (i : Int) < (capl : Int) := by omega
        obtain ⟨bo, offo, ao, no, co, rfl, eu, eno, hco, hat⟩ := HL.out.place hlt
        have hprs := HPR.out i hlt
        have HG := Lib.hid (HGD.out wr HBx.out i hlt _ _ _ (hco.below HBx.out))
        have HBR := Lib.hid (fun W (h : Below w.heap.size w W) => rbare_c (hco.below h) (text (L.getD i Rw.zero).k))
        have hrow := fun h => mAt_row (gs := gs) (R := L.map Rw.pr) (i := i) h
        have hbare := fun h h2 => mAt_bare (gs := gs) (R := L.map Rw.pr) (i := i) h h2
        have hkey := fun h h2 h3 => mAt_key (gs := gs) (R := L.map Rw.pr) (i := i) h h2 h3
        have hzero := (mAt_zero (gs := gs) (R := L.map Rw.pr) (i := i)).2
        have HBADI := Lib.hid (HBAD.out i hlt (by first | rfl | trivial) HZ.out)
        rw [hprs] at hrow hbare hkey hzero
        have HNX := Lib.hid (fun (h : mAt gs (L.map Rw.pr) i = 0) k (hk : k < i + 1) => (show mAt gs (L.map Rw.pr) k = 0 from if e : k = i then e ▸ h else HZ.out k (by omega)))
        obtain ⟨y, hy⟩ : ∃ y, L.getD i Rw.zero = y := ⟨_, rfl⟩
        rw [hy] at hat eu eno hco HG HBR hrow hbare hkey hzero
        obtain ⟨ko, uo, cso⟩ := y
        simp only [Rw.pr] at hat eu eno hco HG HBR hrow hbare hkey hzero
        obtain ⟨to, hto⟩ : ∃ z, text ko = z := ⟨_, rfl⟩
        rw [hto] at hat
        simp only [hto] at HG HBR
        have HOW := Lib.hid hat
        have HROW := Lib.hid hrow
        have HBARE := Lib.hid hbare
        have HKEY := Lib.hid hkey
        have HZERO := Lib.hid hzero
        have HTO := Lib.hid hto
        obtain ⟨RG, hRG⟩ : ∃ z, rgoodS gs ko cso = z := ⟨_, rfl⟩
        rw [hRG] at HROW HBARE HKEY HZERO HG
        obtain ⟨BR, hBR⟩ : ∃ z, bareS cso = z := ⟨_, rfl⟩
        simp only [hBR] at HBARE HZERO HBR
        obtain ⟨o0, o1⟩ := HOW.out wr HBx.out
        clear hat hy hto hco eu eno hrow hbare hkey hzero hRG hBR hprs
        by_cases hr0 : RG = 0
        · subst hr0
          go_upto_region 10 with (go_at_call 63; (with_reducible refine HG.out.mono ?_); rintro e9 w9 ⟨rfl, hb9⟩; have HB9 := Lib.hid (HBx.out.trans (hb9.mono HBx.out.size)); clear hb9)
          clear o0 o1 HBx HG HROW
          have HBx := Lib.hid HB9.out
          clear HB9
          cases BR with
          | true =>
            have HRR := Lib.hid ((HBADI.out (by rw [HBARE.out (by first | rfl | trivial) (by first | rfl | trivial)]; decide)).trans (HBARE.out (by first | rfl | trivial) (by first | rfl | trivial)))
            clear HBADI HBARE HKEY HZERO HNX
            refine wp_region_flow [none,none,none,none,none,none,none,none,none,none,none,none,none,none,none,none,none,none,none,none,none,none,none,none,none,none,none, some 0, some 1, some 2, some 3, some 4, some 5, some 6, some 7, some 8, some 9, some 10, some 11, some 12, some 13, some 14, some 15, some 16, some 17, some 18, some 19, some 20, some 21, some 22] (fun i => [u27, u28, u29, u30, u31, u32, u33, u34, u35, u36, u37, u38, u39, u40, u41, u42, u43, u44, u45, u46, u47, u48, u49].getD i undef) [(fun v _ => v = .slice (some ⟨bo, offo, none⟩) m capl), (fun v _ => v = .int .i64 (i : Int)), (fun v _ => v = .pointer (some ⟨bo, offo + i * 2, none⟩)), (fun v _ => v = .agg #[.string to, .slice ao no co]), (fun v _ => v = .bool true), (fun v _ => v = .bool true), (fun v _ => v = undef), (fun v _ => v = undef), (fun v _ => v = undef), (fun v _ => v = undef), (fun v _ => v = undef), (fun v _ => v = undef), (fun v _ => v = undef), (fun v _ => v = undef), (fun v _ => v = undef), (fun v _ => v = undef), (fun v _ => v = undef), (fun v _ => v = undef), (fun v _ => v = undef), (fun v _ => v = undef), (fun v _ => v = undef), (fun v _ => v = undef), (fun v _ => v = .bool true)] (by kernel_rfl) (by kernel_rfl) rfl rfl rfl ?_ ?_ ?_
            · intro g hg v X Y hX hY hv
              simp only [List.mem_cons, List.not_mem_nil, or_false] at hg
              rcases hg with rfl | rfl | rfl | rfl | rfl | rfl | rfl | rfl | rfl | rfl | rfl | rfl | rfl | rfl | rfl | rfl | rfl | rfl | rfl | rfl | rfl | rfl | rfl
              all_goals first
                | exact hv
                | exact hv.kept hY
            · simp only [flowOps, and_true]
              refine ⟨?_,?_,?_,?_,?_,?_,?_,?_,?_,?_,?_,?_,?_,?_,?_,?_,?_,?_,?_,?_,?_,?_,?_⟩
              · intro xs W hW hn
                simp only [flowAct, zwc, zwn]
                go_wp2_with (fail)
                exact ⟨rfl, _, rfl, Below.refl _ _, rfl⟩
              · intro xs W hW hn
                simp only [flowAct, zwc, zwn]
                go_wp2_with (fail)
                exact ⟨rfl, _, rfl, Below.refl _ _, rfl⟩
              · intro xs W hW hn
                simp [flowNeeds, Region.binds] at hn
                simp only [flowAct, zwc, zwn]
                try simp only [hn]
                go_wp2_with (fail)
                exact ⟨rfl, _, rfl, Below.refl _ _, rfl⟩
              · intro xs W hW hn
                obtain ⟨o0, o1⟩ := HOW.out W (HBx.out.trans (hW.mono HBx.out.size))
                simp [flowNeeds, Region.binds] at hn
                simp only [flowAct, zwc, zwn]
                try simp only [hn]
                go_wp2_with (fail)
                exact ⟨rfl, _, rfl, Below.refl _ _, rfl⟩
              · intro xs W hW hn
                simp [flowNeeds, Region.binds] at hn
                simp only [flowAct, zwc, zwn]
                simp only [hn]
                go_wp2_with (go_at_call 64; (with_reducible refine (HBR.out _ (HBx.out.trans (hW.mono HBx.out.size))).mono ?_); rintro e9 w9 ⟨rfl, hb9⟩)
                exact ⟨rfl, _, rfl, hb9, rfl⟩
              · intro xs W hW hn
                simp [flowNeeds, Region.binds] at hn
                simp only [flowAct, zwc, zwn]
                try simp only [hn]
                go_wp2_with (fail)
                exact ⟨rfl, _, rfl, Below.refl _ _, rfl⟩
              · intro xs W hW hn
                simp [flowNeeds, Region.binds] at hn
                simp only [flowAct, zwc, zwn]
                try simp only [hn]
                go_wp2_with (fail)
                exact ⟨rfl, _, rfl, Below.refl _ _, rfl⟩
              · intro xs W hW hn
                simp [flowNeeds, Region.binds] at hn
                simp only [flowAct, zwc, zwn]
                try simp only [hn]
                go_wp2_with (fail)
                exact ⟨rfl, _, rfl, Below.refl _ _, rfl⟩
              · intro xs W hW hn
                simp [flowNeeds, Region.binds] at hn
                simp only [flowAct, zwc, zwn]
                try simp only [hn]
                go_wp2_with (fail)
                exact ⟨rfl, _, rfl, Below.refl _ _, rfl⟩
              · intro xs W hW hn
                simp [flowNeeds, Region.binds] at hn
                simp only [flowAct, zwc, zwn]
                try simp only [hn]
                go_wp2_with (fail)
                exact ⟨rfl, _, rfl, Below.refl _ _, rfl⟩
              · intro xs W hW hn
                simp [flowNeeds, Region.binds] at hn
                simp only [flowAct, zwc, zwn]
                try simp only [hn]
                go_wp2_with (fail)
                exact ⟨rfl, _, rfl, Below.refl _ _, rfl⟩
              · intro xs W hW hn
                simp [flowNeeds, Region.binds] at hn
                simp only [flowAct, zwc, zwn]
                try simp only [hn]
                go_wp2_with (fail)
                exact ⟨rfl, _, rfl, Below.refl _ _, rfl⟩
              · intro xs W hW hn
                simp [flowNeeds, Region.binds] at hn
                simp only [flowAct, zwc, zwn]
                try simp only [hn]
                go_wp2_with (fail)
                exact ⟨rfl, _, rfl, Below.refl _ _, rfl⟩
              · intro xs W hW hn
                simp [flowNeeds, Region.binds] at hn
                simp only [flowAct, zwc, zwn]
                try simp only [hn]
                go_wp2_with (fail)
                exact ⟨rfl, _, rfl, Below.refl _ _, rfl⟩
              · intro xs W hW hn
                simp [flowNeeds, Region.binds] at hn
                simp only [flowAct, zwc, zwn]
                try simp only [hn]
                go_wp2_with (fail)
                exact ⟨rfl, _, rfl, Below.refl _ _, rfl⟩
              · intro xs W hW hn
                simp [flowNeeds, Region.binds] at hn
                simp only [flowAct, zwc, zwn]
                try simp only [hn]
                go_wp2_with (fail)
                exact ⟨rfl, _, rfl, Below.refl _ _, rfl⟩
              · intro xs W hW hn
                simp [flowNeeds, Region.binds] at hn
                simp only [flowAct, zwc, zwn]
                try simp only [hn]
                go_wp2_with (fail)
                exact ⟨rfl, _, rfl, Below.refl _ _, rfl⟩
              · intro xs W hW hn
                simp [flowNeeds, Region.binds] at hn
                simp only [flowAct, zwc, zwn]
                try simp only [hn]
                go_wp2_with (fail)
                exact ⟨rfl, _, rfl, Below.refl _ _, rfl⟩
              · intro xs W hW hn
                simp [flowNeeds, Region.binds] at hn
                simp only [flowAct, zwc, zwn]
                try simp only [hn]
                go_wp2_with (fail)
                exact ⟨rfl, _, rfl, Below.refl _ _, rfl⟩
              · intro xs W hW hn
                simp [flowNeeds, Region.binds] at hn
                simp only [flowAct, zwc, zwn]
                try simp only [hn]
                go_wp2_with (fail)
                exact ⟨rfl, _, rfl, Below.refl _ _, rfl⟩
              · intro xs W hW hn
                simp [flowNeeds, Region.binds] at hn
                simp only [flowAct, zwc, zwn]
                try simp only [hn]
                go_wp2_with (fail)
                exact ⟨rfl, _, rfl, Below.refl _ _, rfl⟩
              · intro xs W hW hn
                simp [flowNeeds, Region.binds] at hn
                simp only [flowAct, zwc, zwn]
                try simp only [hn]
                go_wp2_with (fail)
                exact ⟨rfl, _, rfl, Below.refl _ _, rfl⟩
              · intro xs W hW hn
                simp [flowNeeds, Region.binds] at hn
                simp only [flowAct, zwc, zwn]
                try simp only [hn]
                go_wp2_with (fail)
                exact ⟨rfl, _, rfl, Below.refl _ _, rfl⟩
            · intro xs W hW hall
              simp only [flowAll, and_true, Nat.zero_add, Nat.reduceAdd] at hall
              obtain ⟨-,-,-,-,-,-,-,-,-,-,-,-,-,-,-,-,-,-,-,-,-,-, eL⟩ := hall
              simp only [flowAct, zwc, zwn]
              simp only [eL]
              clear eL
              have HBy := Lib.hid (HBx.out.trans (hW.mono HBx.out.size))
              clear hW
              go_wp2
              go_ret
              exact ⟨by rw [HRR.out]; rfl, HBy.out⟩
          | false =>
            clear HBARE
            by_cases hi0 : i = 0
            · have hd : decide (0 < i) = false := by simp [hi0]
              have HNN := Lib.hid (HNX.out (HZERO.out ⟨by first | rfl | trivial, by first | rfl | trivial, fun h => absurd h (by omega)⟩))
              clear HNX HZERO HKEY HBADI hi0
              refine wp_region_flow [none,none,none,none,none,none,none,none,none,none,none,none,none,none,none,none,none,none,none,none,none,none,none,none,none,none,none, some 0, some 1, some 2, some 3, some 4, some 5, some 6, some 7, some 8, some 9, some 10, some 11, some 12, some 13, some 14, some 15, some 16, some 17, some 18, some 19, some 20, some 21, some 22] (fun i => [u27, u28, u29, u30, u31, u32, u33, u34, u35, u36, u37, u38, u39, u40, u41, u42, u43, u44, u45, u46, u47, u48, u49].getD i undef) [(fun v _ => v = .slice (some ⟨bo, offo, none⟩) m capl), (fun v _ => v = .int .i64 (i : Int)), (fun v _ => v = .pointer (some ⟨bo, offo + i * 2, none⟩)), (fun v _ => v = .agg #[.string to, .slice ao no co]), (fun v _ => v = .bool false), (fun v _ => v = .bool false), (fun v _ => v = .int .i64 (i : Int)), (fun v _ => v = .bool false), (fun v _ => v = .bool false), (fun v _ => v = undef), (fun v _ => v = undef), (fun v _ => v = undef), (fun v _ => v = undef), (fun v _ => v = undef), (fun v _ => v = undef), (fun v _ => v = undef), (fun v _ => v = undef), (fun v _ => v = undef), (fun v _ => v = undef), (fun v _ => v = undef), (fun v _ => v = undef), (fun v _ => v = .bool false), (fun v _ => v = .bool false)] (by kernel_rfl) (by kernel_rfl) rfl rfl rfl ?_ ?_ ?_
              · intro g hg v X Y hX hY hv
                simp only [List.mem_cons, List.not_mem_nil, or_false] at hg
                rcases hg with rfl | rfl | rfl | rfl | rfl | rfl | rfl | rfl | rfl | rfl | rfl | rfl | rfl | rfl | rfl | rfl | rfl | rfl | rfl | rfl | rfl | rfl | rfl
                all_goals first
                  | exact hv
                  | exact hv.kept hY
              · simp only [flowOps, and_true]
                refine ⟨?_,?_,?_,?_,?_,?_,?_,?_,?_,?_,?_,?_,?_,?_,?_,?_,?_,?_,?_,?_,?_,?_,?_⟩
                · intro xs W hW hn
                  simp only [flowAct, zwc, zwn]
                  go_wp2_with (fail)
                  exact ⟨rfl, _, rfl, Below.refl _ _, rfl⟩
                · intro xs W hW hn
                  simp only [flowAct, zwc, zwn]
                  go_wp2_with (fail)
                  exact ⟨rfl, _, rfl, Below.refl _ _, rfl⟩
                · intro xs W hW hn
                  simp [flowNeeds, Region.binds] at hn
                  simp only [flowAct, zwc, zwn]
                  try simp only [hn]
                  go_wp2_with (fail)
                  exact ⟨rfl, _, rfl, Below.refl _ _, rfl⟩
                · intro xs W hW hn
                  obtain ⟨o0, o1⟩ := HOW.out W (HBx.out.trans (hW.mono HBx.out.size))
                  simp [flowNeeds, Region.binds] at hn
                  simp only [flowAct, zwc, zwn]
                  try simp only [hn]
                  go_wp2_with (fail)
                  exact ⟨rfl, _, rfl, Below.refl _ _, rfl⟩
                · intro xs W hW hn
                  simp [flowNeeds, Region.binds] at hn
                  simp only [flowAct, zwc, zwn]
                  simp only [hn]
                  go_wp2_with (go_at_call 64; (with_reducible refine (HBR.out _ (HBx.out.trans (hW.mono HBx.out.size))).mono ?_); rintro e9 w9 ⟨rfl, hb9⟩)
                  exact ⟨rfl, _, rfl, hb9, rfl⟩
                · intro xs W hW hn
                  simp [flowNeeds, Region.binds] at hn
                  simp only [flowAct, zwc, zwn]
                  try simp only [hn]
                  go_wp2_with (fail)
                  exact ⟨rfl, _, rfl, Below.refl _ _, rfl⟩
                · intro xs W hW hn
                  simp [flowNeeds, Region.binds] at hn
                  simp only [flowAct, zwc, zwn]
                  try simp only [hn]
                  go_wp2_with (fail)
                  exact ⟨rfl, _, rfl, Below.refl _ _, rfl⟩
                · intro xs W hW hn
                  simp [flowNeeds, Region.binds] at hn
                  simp only [flowAct, zwc, zwn]
                  try simp only [hn]
                  go_wp2_with (fail)
                  exact ⟨rfl, _, rfl, Below.refl _ _, rfl⟩
                · intro xs W hW hn
                  simp [flowNeeds, Region.binds] at hn
                  simp only [flowAct, zwc, zwn]
                  try simp only [hn]
                  go_wp2_with (fail)
                  exact ⟨rfl, _, rfl, Below.refl _ _, rfl⟩
                · intro xs W hW hn
                  simp [flowNeeds, Region.binds] at hn
                  simp only [flowAct, zwc, zwn]
                  try simp only [hn]
                  go_wp2_with (fail)
                  exact ⟨rfl, _, rfl, Below.refl _ _, rfl⟩
                · intro xs W hW hn
                  simp [flowNeeds, Region.binds] at hn
                  simp only [flowAct, zwc, zwn]
                  try simp only [hn]
                  go_wp2_with (fail)
                  exact ⟨rfl, _, rfl, Below.refl _ _, rfl⟩
                · intro xs W hW hn
                  simp [flowNeeds, Region.binds] at hn
                  simp only [flowAct, zwc, zwn]
                  try simp only [hn]
                  go_wp2_with (fail)
                  exact ⟨rfl, _, rfl, Below.refl _ _, rfl⟩
                · intro xs W hW hn
                  simp [flowNeeds, Region.binds] at hn
                  simp only [flowAct, zwc, zwn]
                  try simp only [hn]
                  go_wp2_with (fail)
                  exact ⟨rfl, _, rfl, Below.refl _ _, rfl⟩
                · intro xs W hW hn
                  simp [flowNeeds, Region.binds] at hn
                  simp only [flowAct, zwc, zwn]
                  try simp only [hn]
                  go_wp2_with (fail)
                  exact ⟨rfl, _, rfl, Below.refl _ _, rfl⟩
                · intro xs W hW hn
                  simp [flowNeeds, Region.binds] at hn
                  simp only [flowAct, zwc, zwn]
                  try simp only [hn]
                  go_wp2_with (fail)
                  exact ⟨rfl, _, rfl, Below.refl _ _, rfl⟩
                · intro xs W hW hn
                  simp [flowNeeds, Region.binds] at hn
                  simp only [flowAct, zwc, zwn]
                  try simp only [hn]
                  go_wp2_with (fail)
                  exact ⟨rfl, _, rfl, Below.refl _ _, rfl⟩
                · intro xs W hW hn
                  simp [flowNeeds, Region.binds] at hn
                  simp only [flowAct, zwc, zwn]
                  try simp only [hn]
                  go_wp2_with (fail)
                  exact ⟨rfl, _, rfl, Below.refl _ _, rfl⟩
                · intro xs W hW hn
                  simp [flowNeeds, Region.binds] at hn
                  simp only [flowAct, zwc, zwn]
                  try simp only [hn]
                  go_wp2_with (fail)
                  exact ⟨rfl, _, rfl, Below.refl _ _, rfl⟩
                · intro xs W hW hn
                  simp [flowNeeds, Region.binds] at hn
                  simp only [flowAct, zwc, zwn]
                  try simp only [hn]
                  go_wp2_with (fail)
                  exact ⟨rfl, _, rfl, Below.refl _ _, rfl⟩
                · intro xs W hW hn
                  simp [flowNeeds, Region.binds] at hn
                  simp only [flowAct, zwc, zwn]
                  try simp only [hn]
                  go_wp2_with (fail)
                  exact ⟨rfl, _, rfl, Below.refl _ _, rfl⟩
                · intro xs W hW hn
                  simp [flowNeeds, Region.binds] at hn
                  simp only [flowAct, zwc, zwn]
                  try simp only [hn]
                  go_wp2_with (fail)
                  exact ⟨rfl, _, rfl, Below.refl _ _, rfl⟩
                · intro xs W hW hn
                  simp [flowNeeds, Region.binds] at hn
                  simp only [flowAct, zwc, zwn]
                  try simp only [hn]
                  go_wp2_with (fail)
                  exact ⟨rfl, _, rfl, Below.refl _ _, rfl⟩
                · intro xs W hW hn
                  simp [flowNeeds, Region.binds] at hn
                  simp only [flowAct, zwc, zwn]
                  try simp only [hn]
                  go_wp2_with (fail)
                  exact ⟨rfl, _, rfl, Below.refl _ _, rfl⟩
              · intro xs W hW hall
                simp only [flowAll, and_true, Nat.zero_add, Nat.reduceAdd] at hall
                obtain ⟨-,-,-,-,-,-,-,-,-,-,-,-,-,-,-,-,-,-,-,-,-,-, eL⟩ := hall
                simp only [flowAct, zwc, zwn]
                simp only [eL]
                clear eL
                have HBy := Lib.hid (HBx.out.trans (hW.mono HBx.out.size))
                clear hW
                go_wp2
                go_roundw
                case rel => exact ⟨_, by omega, by go_num, HNN.out, HBy.out⟩
                case measure => simp [intOf]; omega
            · obtain ⟨p, rfl⟩ : ∃ p, i = p + 1 := ⟨i - 1, by omega⟩
              obtain ⟨bo', offo', ap, np, cp, ea, eu, enp, hcp, hatp⟩ := HL.out.place (k := p) (by omega)
              injection ea with ea
              injection ea with ea1 ea2
              subst ea1 ea2
              have hpp := HPR.out p (by omega)
              have HKEY2 := Lib.hid (HKEY.out (by first | rfl | trivial) (by omega))
              have HZERO2 := Lib.hid (fun h => HZERO.out ⟨by first | rfl | trivial, by first | rfl | trivial, fun _ => h⟩)
              clear HKEY HZERO
              simp only [Nat.add_sub_cancel] at HKEY2 HZERO2
              rw [hpp] at HKEY2 HZERO2
              simp only [Rw.pr] at HKEY2 HZERO2
              obtain ⟨kp, hkp⟩ : ∃ z, (L.getD p Rw.zero).k = z := ⟨_, rfl⟩
              rw [hkp] at HKEY2 HZERO2 hatp
              have htl := text_lss kp ko
              obtain ⟨tp, htp⟩ : ∃ z, text kp = z := ⟨_, rfl⟩
              rw [htp] at hatp
              rw [htp, HTO.out] at htl
              obtain ⟨BL, hBL⟩ : ∃ z, Op.bytesLess kp ko = z := ⟨_, rfl⟩
              rw [hBL] at HKEY2 HZERO2 htl
              have HPW := Lib.hid hatp
              have hpi : (p : Int) < (m : Int) := by omega
              have hpc : (p : Int) < (capl : Int) := by omega
              have hps : ((p + 1 : Nat) : Int) - 1 = (p : Int) := by omega
              clear hatp htp hkp hBL hpp hcp eu enp
              refine wp_region_flow [none,none,none,none,none,none,none,none,none,none,none,none,none,none,none,none,none,none,none,none,none,none,none,none,none,none,none, some 0, some 1, some 2, some 3, some 4, some 5, some 6, some 7, some 8, some 9, some 10, some 11, some 12, some 13, some 14, some 15, some 16, some 17, some 18, some 19, some 20, some 21, some 22] (fun i => [u27, u28, u29, u30, u31, u32, u33, u34, u35, u36, u37, u38, u39, u40, u41, u42, u43, u44, u45, u46, u47, u48, u49].getD i undef) [(fun v _ => v = .slice (some ⟨bo, offo, none⟩) m capl), (fun v _ => v = .int .i64 ((p + 1 : Nat) : Int)), (fun v _ => v = .pointer (some ⟨bo, offo + (p + 1) * 2, none⟩)), (fun v _ => v = .agg #[.string to, .slice ao no co]), (fun v _ => v = .bool false), (fun v _ => v = .bool false), (fun v _ => v = .int .i64 ((p + 1 : Nat) : Int)), (fun v _ => v = .bool true), (fun v _ => v = .bool true), (fun v _ => v = .slice (some ⟨bo, offo, none⟩) m capl), (fun v _ => v = .int .i64 ((p + 1 : Nat) : Int)), (fun v _ => v = .int .i64 (p : Int)), (fun v _ => v = .pointer (some ⟨bo, offo + p * 2, none⟩)), (fun v _ => v = .pointer (some ⟨bo, offo + p * 2, none⟩)), (fun v _ => v = .string tp), (fun v _ => v = .slice (some ⟨bo, offo, none⟩) m capl), (fun v _ => v = .int .i64 ((p + 1 : Nat) : Int)), (fun v _ => v = .pointer (some ⟨bo, offo + (p + 1) * 2, none⟩)), (fun v _ => v = .pointer (some ⟨bo, offo + (p + 1) * 2, none⟩)), (fun v _ => v = .string to), (fun v _ => v = .bool (!BL)), (fun v _ => v = .bool (!BL)), (fun v _ => v = .bool (!BL))] (by kernel_rfl) (by kernel_rfl) rfl rfl rfl ?_ ?_ ?_
              · intro g hg v X Y hX hY hv
                simp only [List.mem_cons, List.not_mem_nil, or_false] at hg
                rcases hg with rfl | rfl | rfl | rfl | rfl | rfl | rfl | rfl | rfl | rfl | rfl | rfl | rfl | rfl | rfl | rfl | rfl | rfl | rfl | rfl | rfl | rfl | rfl
                all_goals first
                  | exact hv
                  | exact hv.kept hY
              · simp only [flowOps, and_true]
                refine ⟨?_,?_,?_,?_,?_,?_,?_,?_,?_,?_,?_,?_,?_,?_,?_,?_,?_,?_,?_,?_,?_,?_,?_⟩
                · intro xs W hW hn
                  simp only [flowAct, zwc, zwn]
                  go_wp2_with (fail)
                  exact ⟨rfl, _, rfl, Below.refl _ _, rfl⟩
                · intro xs W hW hn
                  simp only [flowAct, zwc, zwn]
                  go_wp2_with (fail)
                  exact ⟨rfl, _, rfl, Below.refl _ _, rfl⟩
                · intro xs W hW hn
                  simp [flowNeeds, Region.binds] at hn
                  simp only [flowAct, zwc, zwn]
                  try simp only [hn]
                  go_wp2_with (fail)
                  exact ⟨rfl, _, rfl, Below.refl _ _, rfl⟩
                · intro xs W hW hn
                  obtain ⟨o0, o1⟩ := HOW.out W (HBx.out.trans (hW.mono HBx.out.size))
                  simp [flowNeeds, Region.binds] at hn
                  simp only [flowAct, zwc, zwn]
                  try simp only [hn]
                  go_wp2_with (fail)
                  exact ⟨rfl, _, rfl, Below.refl _ _, rfl⟩
                · intro xs W hW hn
                  simp [flowNeeds, Region.binds] at hn
                  simp only [flowAct, zwc, zwn]
                  simp only [hn]
                  go_wp2_with (go_at_call 64; (with_reducible refine (HBR.out _ (HBx.out.trans (hW.mono HBx.out.size))).mono ?_); rintro e9 w9 ⟨rfl, hb9⟩)
                  exact ⟨rfl, _, rfl, hb9, rfl⟩
                · intro xs W hW hn
                  simp [flowNeeds, Region.binds] at hn
                  simp only [flowAct, zwc, zwn]
                  try simp only [hn]
                  go_wp2_with (fail)
                  exact ⟨rfl, _, rfl, Below.refl _ _, rfl⟩
                · intro xs W hW hn
                  simp [flowNeeds, Region.binds] at hn
                  simp only [flowAct, zwc, zwn]
                  try simp only [hn]
                  go_wp2_with (fail)
                  exact ⟨rfl, _, rfl, Below.refl _ _, rfl⟩
                · intro xs W hW hn
                  simp [flowNeeds, Region.binds] at hn
                  simp only [flowAct, zwc, zwn]
                  try simp only [hn]
                  go_wp2_with (fail)
                  exact ⟨rfl, _, rfl, Below.refl _ _, rfl⟩
                · intro xs W hW hn
                  simp [flowNeeds, Region.binds] at hn
                  simp only [flowAct, zwc, zwn]
                  try simp only [hn]
                  go_wp2_with (fail)
                  exact ⟨rfl, _, rfl, Below.refl _ _, rfl⟩
                · intro xs W hW hn
                  simp [flowNeeds, Region.binds] at hn
                  simp only [flowAct, zwc, zwn]
                  try simp only [hn]
                  go_wp2_with (fail)
                  exact ⟨rfl, _, rfl, Below.refl _ _, rfl⟩
                · intro xs W hW hn
                  simp [flowNeeds, Region.binds] at hn
                  simp only [flowAct, zwc, zwn]
                  try simp only [hn]
                  go_wp2_with (fail)
                  exact ⟨rfl, _, rfl, Below.refl _ _, rfl⟩
                · intro xs W hW hn
                  simp [flowNeeds, Region.binds] at hn
                  simp only [flowAct, zwc, zwn]
                  try simp only [hn]
                  go_wp2_with (fail)
                  exact ⟨rfl, _, rfl, Below.refl _ _, rfl⟩
                · intro xs W hW hn
                  simp [flowNeeds, Region.binds] at hn
                  simp only [flowAct, zwc, zwn]
                  try simp only [hn]
                  go_wp2_with (fail)
                  exact ⟨rfl, _, rfl, Below.refl _ _, rfl⟩
                · intro xs W hW hn
                  simp [flowNeeds, Region.binds] at hn
                  simp only [flowAct, zwc, zwn]
                  try simp only [hn]
                  go_wp2_with (fail)
                  exact ⟨rfl, _, rfl, Below.refl _ _, rfl⟩
                · intro xs W hW hn
                  obtain ⟨p0, p1⟩ := HPW.out W (HBx.out.trans (hW.mono HBx.out.size))
                  simp [flowNeeds, Region.binds] at hn
                  simp only [flowAct, zwc, zwn]
                  try simp only [hn]
                  go_wp2_with (fail)
                  exact ⟨rfl, _, rfl, Below.refl _ _, rfl⟩
                · intro xs W hW hn
                  simp [flowNeeds, Region.binds] at hn
                  simp only [flowAct, zwc, zwn]
                  try simp only [hn]
                  go_wp2_with (fail)
                  exact ⟨rfl, _, rfl, Below.refl _ _, rfl⟩
                · intro xs W hW hn
                  simp [flowNeeds, Region.binds] at hn
                  simp only [flowAct, zwc, zwn]
                  try simp only [hn]
                  go_wp2_with (fail)
                  exact ⟨rfl, _, rfl, Below.refl _ _, rfl⟩
                · intro xs W hW hn
                  simp [flowNeeds, Region.binds] at hn
                  simp only [flowAct, zwc, zwn]
                  try simp only [hn]
                  go_wp2_with (fail)
                  exact ⟨rfl, _, rfl, Below.refl _ _, rfl⟩
                · intro xs W hW hn
                  simp [flowNeeds, Region.binds] at hn
                  simp only [flowAct, zwc, zwn]
                  try simp only [hn]
                  go_wp2_with (fail)
                  exact ⟨rfl, _, rfl, Below.refl _ _, rfl⟩
                · intro xs W hW hn
                  obtain ⟨o0, o1⟩ := HOW.out W (HBx.out.trans (hW.mono HBx.out.size))
                  simp [flowNeeds, Region.binds] at hn
                  simp only [flowAct, zwc, zwn]
                  try simp only [hn]
                  go_wp2_with (fail)
                  exact ⟨rfl, _, rfl, Below.refl _ _, rfl⟩
                · intro xs W hW hn
                  simp [flowNeeds, Region.binds] at hn
                  simp only [flowAct, zwc, zwn]
                  try simp only [hn]
                  go_wp2_with (fail)
                  exact ⟨rfl, _, rfl, Below.refl _ _, rfl⟩
                · intro xs W hW hn
                  simp [flowNeeds, Region.binds] at hn
                  simp only [flowAct, zwc, zwn]
                  try simp only [hn]
                  go_wp2_with (fail)
                  exact ⟨rfl, _, rfl, Below.refl _ _, rfl⟩
                · intro xs W hW hn
                  simp [flowNeeds, Region.binds] at hn
                  simp only [flowAct, zwc, zwn]
                  try simp only [hn]
                  go_wp2_with (fail)
                  exact ⟨rfl, _, rfl, Below.refl _ _, rfl⟩
              · intro xs W hW hall
                simp only [flowAll, and_true, Nat.zero_add, Nat.reduceAdd] at hall
                obtain ⟨-,-,-,-,-,-,-,-,-,-,-,-,-,-,-,-,-,-,-,-,-,-, eL⟩ := hall
                simp only [flowAct, zwc, zwn]
                simp only [eL]
                clear eL
                have HBy := Lib.hid (HBx.out.trans (hW.mono HBx.out.size))
                clear hW
                cases BL with
                | true =>
                  have HNN := Lib.hid (HNX.out (HZERO2.out rfl))
                  go_wp2
                  go_roundw
                  case rel => exact ⟨p + 1 + 1, by omega, by go_num, HNN.out, HBy.out⟩
                  case measure => simp [intOf]; omega
                | false =>
                  have HRR := Lib.hid ((HBADI.out (by rw [HKEY2.out rfl]; decide)).trans (HKEY2.out rfl))
                  go_wp2
                  go_ret
                  exact ⟨by rw [HRR.out]; rfl, HBy.out⟩
        · have HRR := Lib.hid ((HBADI.out (by rw [HROW.out hr0]; exact hr0)).trans (HROW.out hr0))
          clear HROW HBARE HKEY HZERO HNX HBADI
          go_wp2_with (go_at_call 63; (with_reducible refine HG.out.mono ?_); rintro e9 w9 ⟨rfl, hb9⟩; have HB9 := Lib.hid (HBx.out.trans (hb9.mono HBx.out.size)); clear hb9)
          go_ret
          exact ⟨by rw [HRR.out]; rfl, HB9.out⟩
      · obtain rfl : m = i := by omega
        have HRR := Lib.hid (HYES.out (by first | rfl | trivial) HZ.out)
        go_wp2
        go_ret
        exact ⟨by rw [HRR.out]; rfl, HBx.out⟩
  · have HRR := Lib.hid (HPO.out h0)
    clear HPO HYES HBAD
    go_wp2_with (go_at_call 62; (with_reducible refine HPG.out.mono ?_); rintro e9 w9 ⟨rfl, hb9⟩)
    go_ret
    exact ⟨by rw [HRR.out]; rfl, hb9⟩
end Go.Proofs.Ytidbjmkfmfojdaa
end

section
namespace Go.Proofs.Ytidbjmkfmfojdaa
open Go.RowKit Go Go.Sort
set_option linter.unusedVariables false
set_option maxRecDepth 20000

set_option maxRecDepth 100000 in
set_option maxHeartbeats 12800000 in
theorem mgood_c {w : World} {x xl : Option Addr} {n1 cap m capl : Nat} {gs : List Grp} {L : List Rw} (hg : Grs w x n1 cap gs) (hs : ∀ g ∈ gs, g.1.length ≤ 9223372036854775807) (hl : RwsAt w xl m capl L) (hsh : RShort L) :
    Calls Try.prog 34 #[.slice x n1 cap, .slice xl m capl] w (Tells (.int .i64 (mgoodS gs (L.map Rw.pr))) w) := by
  have hll := hl.1.len
  have hle := hl.1.le
  have hmax := hl.1.max
  obtain ⟨RV, hRV⟩ : ∃ z, mgoodS gs (L.map Rw.pr) = z := ⟨_, rfl⟩
  have HPO := Lib.hid (fun (h : ¬ pgoodS gs = 0) => hRV.symm.trans (m_pol (R := L.map Rw.pr) h))
  have HYES := Lib.hid (fun (h : pgoodS gs = 0) (ha : ∀ k, k < m → mAt gs (L.map Rw.pr) k = 0) => hRV.symm.trans (m_yes h (fun k hk => ha k (by rw [List.length_map] at hk; omega))))
  have HBAD := Lib.hid (fun (k : Nat) (hk : k < m) (h : pgoodS gs = 0) (ha : ∀ j, j < k → mAt gs (L.map Rw.pr) j = 0) (hb : ¬ mAt gs (L.map Rw.pr) k = 0) => hRV.symm.trans (m_bad h ha (by rw [List.length_map]; omega) hb))
  have HPR := Lib.hid (fun (k : Nat) (hk : k < m) => prs_at (L := L) (j := k) (by omega))
  have HGD := Lib.hid (fun W (h : Below w.heap.size w W) (k : Nat) (hk : k < m) (u : Option Addr) (n c : Nat) (hu : Cls W u n c (L.getD k Rw.zero).cs) => rowgood_c (hg.below h) hs hu (hsh _ (rw_mem (L := L) (k := k) (by omega))).2 (L.getD k Rw.zero).k (hsh _ (rw_mem (L := L) (k := k) (by omega))).1)
  have HPG := Lib.hid (pgood_c hg hs)
  have HL := Lib.hid hl
  rw [hRV]
  obtain ⟨PG, hPG⟩ : ∃ z, pgoodS gs = z := ⟨_, rfl⟩
  rw [hPG] at HPO HYES HBAD HPG
  clear hRV hPG hl hsh hg hs
  go_enter Try.func34, Try.ntmps34
  by_cases h0 : PG = 0
  · subst h0
    go_upto_region 4 with (go_at_call 59; (with_reducible refine HPG.out.mono ?_); rintro e9 w9 ⟨rfl, hb9⟩; have HB9 := Lib.hid hb9; clear hb9)
    go_wp2
    clear HPO HPG
    go_loopw [16] (fun j wr => ∃ i : Nat, i ≤ m ∧ j = .int .i64 (i : Int) ∧ (∀ k, k < i → mAt gs (L.map Rw.pr) k = 0) ∧ Below w.heap.size w wr) (fun j _ => m - (intOf j).toNat)
    case atStart => exact ⟨0, by omega, rfl, fun k hk => absurd hk (by omega), HB9.out⟩
    case round =>
      clear HB9
      obtain ⟨i, hi, rfl, hz, hbx⟩ := hrel
      have HZ := Lib.hid hz
      have HBx := Lib.hid hbx
      clear hz hbx
      by_cases hlt : i < m
      · have hii : (i : Int) < (m : Int) := by omega
        have hic : (i : Int) < (capl : Int) := by omega
        obtain ⟨bo, offo, ao, no, co, rfl, eu, eno, hco, hat⟩ := HL.out.place hlt
        have hprs := HPR.out i hlt
        have HG := Lib.hid (fun W (h : Below w.heap.size w W) => HGD.out W h i hlt _ _ _ (hco.below h))
        have HBR := Lib.hid (fun W (h : Below w.heap.size w W) => bare_c (hco.below h) (text (L.getD i Rw.zero).k))
        have hrow := fun h => mAt_row (gs := gs) (R := L.map Rw.pr) (i := i) h
        have hbare := fun h h2 => mAt_bare (gs := gs) (R := L.map Rw.pr) (i := i) h h2
        have hkey := fun h h2 h3 => mAt_key (gs := gs) (R := L.map Rw.pr) (i := i) h h2 h3
        have hzero := (mAt_zero (gs := gs) (R := L.map Rw.pr) (i := i)).2
        have HBADI := Lib.hid (HBAD.out i hlt (by first | rfl | trivial) HZ.out)
        rw [hprs] at hrow hbare hkey hzero
        have HNX := Lib.hid (fun (h : mAt gs (L.map Rw.pr) i = 0) k (hk : k < i + 1) => (show mAt gs (L.map Rw.pr) k = 0 from if e : k = i then e ▸ h else HZ.out k (by omega)))
        obtain ⟨y, hy⟩ : ∃ y, L.getD i Rw.zero = y := ⟨_, rfl⟩
        rw [hy] at hat eu eno hco HG HBR hrow hbare hkey hzero
        obtain ⟨ko, uo, cso⟩ := y
        simp only [Rw.pr] at hat eu eno hco HG HBR hrow hbare hkey hzero
        obtain ⟨to, hto⟩ : ∃ z, text ko = z := ⟨_, rfl⟩
        rw [hto] at hat
        simp only [hto] at HG HBR
        have HOW := Lib.hid hat
        have HROW := Lib.hid hrow
        have HBARE := Lib.hid hbare
        have HKEY := Lib.hid hkey
        have HZERO := Lib.hid hzero
        have HTO := Lib.hid hto
        obtain ⟨RG, hRG⟩ : ∃ z, rgoodS gs ko cso = z := ⟨_, rfl⟩
        rw [hRG] at HROW HBARE HKEY HZERO HG
        obtain ⟨BR, hBR⟩ : ∃ z, bareS cso = z := ⟨_, rfl⟩
        simp only [hBR] at HBARE HZERO HBR
        obtain ⟨o0, o1⟩ := HOW.out wr HBx.out
        clear hat hy hto hco eu eno hrow hbare hkey hzero hRG hBR hprs
        go_upto_region 7 with (fail)
        have hal := alloc_below wr (.cells #[.string to, .slice ao no co] 30)
        have hnew := heap_alloc_new wr (.cells #[.string to, .slice ao no co] 30)
        have HB2 := Lib.hid (HBx.out.trans (hal.mono HBx.out.size))
        obtain ⟨gg, hgg⟩ : ∃ z, wr.heap.size = z := ⟨_, rfl⟩
        rw [hgg] at hnew ⊢
        generalize wr.alloc (.cells #[.string to, .slice ao no co] 30) = W2 at *
        have HRW := Lib.hid (fun W (h : Below W2.heap.size W2 W) => row_cells (heap_below hnew h))
        clear hal hgg hnew o0 o1 HBx
        obtain ⟨r0, r1, -⟩ := HRW.out W2 (Below.refl _ _)
        have HGC := Lib.hid (HG.out W2 HB2.out)
        clear HG
        by_cases hr0 : RG = 0
        · subst hr0
          go_upto_region 10 with (go_at_call 60; (with_reducible refine HGC.out.mono ?_); rintro e9 w9 ⟨rfl, hb9⟩; have HBx := Lib.hid (HB2.out.trans (hb9.mono HB2.out.size)); have HXx := Lib.hid hb9; clear hb9)
          clear r0 r1 HB2 HGC HROW
          cases BR with
          | true =>
            have HRR := Lib.hid ((HBADI.out (by rw [HBARE.out (by first | rfl | trivial) (by first | rfl | trivial)]; decide)).trans (HBARE.out (by first | rfl | trivial) (by first | rfl | trivial)))
            clear HBADI HBARE HKEY HZERO HNX
            refine wp_region_flow [none,none,none,none,none,none,none,none,none,none,none,none,none,none,none,none,none,none,none,none,none,none,none,none,none,none,none, some 0, some 1, some 2, some 3, some 4, some 5, some 6, some 7, some 8, some 9, some 10, some 11, some 12, some 13, some 14, some 15, some 16, none] (fun i => [u27, u28, u29, u30, u31, u32, u33, u34, u35, u36, u37, u38, u39, u40, u41, u42, u43].getD i undef) [(fun v _ => v = .agg #[.string to, .slice ao no co]), (fun v _ => v = .bool true), (fun v _ => v = .bool true), (fun v _ => v = undef), (fun v _ => v = undef), (fun v _ => v = undef), (fun v _ => v = undef), (fun v _ => v = undef), (fun v _ => v = undef), (fun v _ => v = undef), (fun v _ => v = undef), (fun v _ => v = undef), (fun v _ => v = undef), (fun v _ => v = undef), (fun v _ => v = undef), (fun v _ => v = undef), (fun v _ => v = .bool true)] (by kernel_rfl) (by kernel_rfl) rfl rfl rfl ?_ ?_ ?_
            · intro g hg v X Y hX hY hv
              simp only [List.mem_cons, List.not_mem_nil, or_false] at hg
              rcases hg with rfl | rfl | rfl | rfl | rfl | rfl | rfl | rfl | rfl | rfl | rfl | rfl | rfl | rfl | rfl | rfl | rfl
              all_goals first
                | exact hv
                | exact hv.kept hY
            · simp only [flowOps, and_true]
              refine ⟨?_,?_,?_,?_,?_,?_,?_,?_,?_,?_,?_,?_,?_,?_,?_,?_,?_⟩
              · intro xs W hW hn
                obtain ⟨r0, r1, -⟩ := HRW.out W (HXx.out.trans (hW.mono HXx.out.size))
                simp only [flowAct, zwc, zwn]
                go_wp2_with (fail)
                exact ⟨rfl, _, rfl, Below.refl _ _, rfl⟩
              · intro xs W hW hn
                simp [flowNeeds, Region.binds] at hn
                simp only [flowAct, zwc, zwn]
                simp only [hn]
                go_wp2_with (go_at_call 61; (with_reducible refine (HBR.out _ (HBx.out.trans (hW.mono HBx.out.size))).mono ?_); rintro e9 w9 ⟨rfl, hb9⟩)
                exact ⟨rfl, _, rfl, hb9, rfl⟩
              · intro xs W hW hn
                simp [flowNeeds, Region.binds] at hn
                simp only [flowAct, zwc, zwn]
                try simp only [hn]
                go_wp2_with (fail)
                exact ⟨rfl, _, rfl, Below.refl _ _, rfl⟩
              · intro xs W hW hn
                simp [flowNeeds, Region.binds] at hn
                simp only [flowAct, zwc, zwn]
                try simp only [hn]
                go_wp2_with (fail)
                exact ⟨rfl, _, rfl, Below.refl _ _, rfl⟩
              · intro xs W hW hn
                simp [flowNeeds, Region.binds] at hn
                simp only [flowAct, zwc, zwn]
                try simp only [hn]
                go_wp2_with (fail)
                exact ⟨rfl, _, rfl, Below.refl _ _, rfl⟩
              · intro xs W hW hn
                simp [flowNeeds, Region.binds] at hn
                simp only [flowAct, zwc, zwn]
                try simp only [hn]
                go_wp2_with (fail)
                exact ⟨rfl, _, rfl, Below.refl _ _, rfl⟩
              · intro xs W hW hn
                simp [flowNeeds, Region.binds] at hn
                simp only [flowAct, zwc, zwn]
                try simp only [hn]
                go_wp2_with (fail)
                exact ⟨rfl, _, rfl, Below.refl _ _, rfl⟩
              · intro xs W hW hn
                simp [flowNeeds, Region.binds] at hn
                simp only [flowAct, zwc, zwn]
                try simp only [hn]
                go_wp2_with (fail)
                exact ⟨rfl, _, rfl, Below.refl _ _, rfl⟩
              · intro xs W hW hn
                simp [flowNeeds, Region.binds] at hn
                simp only [flowAct, zwc, zwn]
                try simp only [hn]
                go_wp2_with (fail)
                exact ⟨rfl, _, rfl, Below.refl _ _, rfl⟩
              · intro xs W hW hn
                simp [flowNeeds, Region.binds] at hn
                simp only [flowAct, zwc, zwn]
                try simp only [hn]
                go_wp2_with (fail)
                exact ⟨rfl, _, rfl, Below.refl _ _, rfl⟩
              · intro xs W hW hn
                simp [flowNeeds, Region.binds] at hn
                simp only [flowAct, zwc, zwn]
                try simp only [hn]
                go_wp2_with (fail)
                exact ⟨rfl, _, rfl, Below.refl _ _, rfl⟩
              · intro xs W hW hn
                simp [flowNeeds, Region.binds] at hn
                simp only [flowAct, zwc, zwn]
                try simp only [hn]
                go_wp2_with (fail)
                exact ⟨rfl, _, rfl, Below.refl _ _, rfl⟩
              · intro xs W hW hn
                simp [flowNeeds, Region.binds] at hn
                simp only [flowAct, zwc, zwn]
                try simp only [hn]
                go_wp2_with (fail)
                exact ⟨rfl, _, rfl, Below.refl _ _, rfl⟩
              · intro xs W hW hn
                simp [flowNeeds, Region.binds] at hn
                simp only [flowAct, zwc, zwn]
                try simp only [hn]
                go_wp2_with (fail)
                exact ⟨rfl, _, rfl, Below.refl _ _, rfl⟩
              · intro xs W hW hn
                simp [flowNeeds, Region.binds] at hn
                simp only [flowAct, zwc, zwn]
                try simp only [hn]
                go_wp2_with (fail)
                exact ⟨rfl, _, rfl, Below.refl _ _, rfl⟩
              · intro xs W hW hn
                simp [flowNeeds, Region.binds] at hn
                simp only [flowAct, zwc, zwn]
                try simp only [hn]
                go_wp2_with (fail)
                exact ⟨rfl, _, rfl, Below.refl _ _, rfl⟩
              · intro xs W hW hn
                simp [flowNeeds, Region.binds] at hn
                simp only [flowAct, zwc, zwn]
                try simp only [hn]
                go_wp2_with (fail)
                exact ⟨rfl, _, rfl, Below.refl _ _, rfl⟩
            · intro xs W hW hall
              simp only [flowAll, and_true, Nat.zero_add, Nat.reduceAdd] at hall
              obtain ⟨-,-,-,-,-,-,-,-,-,-,-,-,-,-,-,-, eL⟩ := hall
              simp only [flowAct, zwc, zwn]
              simp only [eL]
              clear eL
              have HBy := Lib.hid (HBx.out.trans (hW.mono HBx.out.size))
              clear hW
              go_wp2
              go_ret
              exact ⟨by rw [HRR.out]; rfl, HBy.out⟩
          | false =>
            clear HBARE
            by_cases hi0 : i = 0
            · have hd : decide (0 < i) = false := by simp [hi0]
              have HNN := Lib.hid (HNX.out (HZERO.out ⟨by first | rfl | trivial, by first | rfl | trivial, fun h => absurd h (by omega)⟩))
              clear HNX HZERO HKEY HBADI hi0
              refine wp_region_flow [none,none,none,none,none,none,none,none,none,none,none,none,none,none,none,none,none,none,none,none,none,none,none,none,none,none,none, some 0, some 1, some 2, some 3, some 4, some 5, some 6, some 7, some 8, some 9, some 10, some 11, some 12, some 13, some 14, some 15, some 16, none] (fun i => [u27, u28, u29, u30, u31, u32, u33, u34, u35, u36, u37, u38, u39, u40, u41, u42, u43].getD i undef) [(fun v _ => v = .agg #[.string to, .slice ao no co]), (fun v _ => v = .bool false), (fun v _ => v = .bool false), (fun v _ => v = .int .i64 (i : Int)), (fun v _ => v = .bool false), (fun v _ => v = .bool false), (fun v _ => v = undef), (fun v _ => v = undef), (fun v _ => v = undef), (fun v _ => v = undef), (fun v _ => v = undef), (fun v _ => v = undef), (fun v _ => v = undef), (fun v _ => v = undef), (fun v _ => v = undef), (fun v _ => v = .bool false), (fun v _ => v = .bool false)] (by kernel_rfl) (by kernel_rfl) rfl rfl rfl ?_ ?_ ?_
              · intro g hg v X Y hX hY hv
                simp only [List.mem_cons, List.not_mem_nil, or_false] at hg
                rcases hg with rfl | rfl | rfl | rfl | rfl | rfl | rfl | rfl | rfl | rfl | rfl | rfl | rfl | rfl | rfl | rfl | rfl
                all_goals first
                  | exact hv
                  | exact hv.kept hY
              · simp only [flowOps, and_true]
                refine ⟨?_,?_,?_,?_,?_,?_,?_,?_,?_,?_,?_,?_,?_,?_,?_,?_,?_⟩
                · intro xs W hW hn
                  obtain ⟨r0, r1, -⟩ := HRW.out W (HXx.out.trans (hW.mono HXx.out.size))
                  simp only [flowAct, zwc, zwn]
                  go_wp2_with (fail)
                  exact ⟨rfl, _, rfl, Below.refl _ _, rfl⟩
                · intro xs W hW hn
                  simp [flowNeeds, Region.binds] at hn
                  simp only [flowAct, zwc, zwn]
                  simp only [hn]
                  go_wp2_with (go_at_call 61; (with_reducible refine (HBR.out _ (HBx.out.trans (hW.mono HBx.out.size))).mono ?_); rintro e9 w9 ⟨rfl, hb9⟩)
                  exact ⟨rfl, _, rfl, hb9, rfl⟩
                · intro xs W hW hn
                  simp [flowNeeds, Region.binds] at hn
                  simp only [flowAct, zwc, zwn]
                  try simp only [hn]
                  go_wp2_with (fail)
                  exact ⟨rfl, _, rfl, Below.refl _ _, rfl⟩
                · intro xs W hW hn
                  simp [flowNeeds, Region.binds] at hn
                  simp only [flowAct, zwc, zwn]
                  try simp only [hn]
                  go_wp2_with (fail)
                  exact ⟨rfl, _, rfl, Below.refl _ _, rfl⟩
                · intro xs W hW hn
                  simp [flowNeeds, Region.binds] at hn
                  simp only [flowAct, zwc, zwn]
                  try simp only [hn]
                  go_wp2_with (fail)
                  exact ⟨rfl, _, rfl, Below.refl _ _, rfl⟩
                · intro xs W hW hn
                  simp [flowNeeds, Region.binds] at hn
                  simp only [flowAct, zwc, zwn]
                  try simp only [hn]
                  go_wp2_with (fail)
                  exact ⟨rfl, _, rfl, Below.refl _ _, rfl⟩
                · intro xs W hW hn
                  simp [flowNeeds, Region.binds] at hn
                  simp only [flowAct, zwc, zwn]
                  try simp only [hn]
                  go_wp2_with (fail)
                  exact ⟨rfl, _, rfl, Below.refl _ _, rfl⟩
                · intro xs W hW hn
                  simp [flowNeeds, Region.binds] at hn
                  simp only [flowAct, zwc, zwn]
                  try simp only [hn]
                  go_wp2_with (fail)
                  exact ⟨rfl, _, rfl, Below.refl _ _, rfl⟩
                · intro xs W hW hn
                  simp [flowNeeds, Region.binds] at hn
                  simp only [flowAct, zwc, zwn]
                  try simp only [hn]
                  go_wp2_with (fail)
                  exact ⟨rfl, _, rfl, Below.refl _ _, rfl⟩
                · intro xs W hW hn
                  simp [flowNeeds, Region.binds] at hn
                  simp only [flowAct, zwc, zwn]
                  try simp only [hn]
                  go_wp2_with (fail)
                  exact ⟨rfl, _, rfl, Below.refl _ _, rfl⟩
                · intro xs W hW hn
                  simp [flowNeeds, Region.binds] at hn
                  simp only [flowAct, zwc, zwn]
                  try simp only [hn]
                  go_wp2_with (fail)
                  exact ⟨rfl, _, rfl, Below.refl _ _, rfl⟩
                · intro xs W hW hn
                  simp [flowNeeds, Region.binds] at hn
                  simp only [flowAct, zwc, zwn]
                  try simp only [hn]
                  go_wp2_with (fail)
                  exact ⟨rfl, _, rfl, Below.refl _ _, rfl⟩
                · intro xs W hW hn
                  simp [flowNeeds, Region.binds] at hn
                  simp only [flowAct, zwc, zwn]
                  try simp only [hn]
                  go_wp2_with (fail)
                  exact ⟨rfl, _, rfl, Below.refl _ _, rfl⟩
                · intro xs W hW hn
                  simp [flowNeeds, Region.binds] at hn
                  simp only [flowAct, zwc, zwn]
                  try simp only [hn]
                  go_wp2_with (fail)
                  exact ⟨rfl, _, rfl, Below.refl _ _, rfl⟩
                · intro xs W hW hn
                  simp [flowNeeds, Region.binds] at hn
                  simp only [flowAct, zwc, zwn]
                  try simp only [hn]
                  go_wp2_with (fail)
                  exact ⟨rfl, _, rfl, Below.refl _ _, rfl⟩
                · intro xs W hW hn
                  simp [flowNeeds, Region.binds] at hn
                  simp only [flowAct, zwc, zwn]
                  try simp only [hn]
                  go_wp2_with (fail)
                  exact ⟨rfl, _, rfl, Below.refl _ _, rfl⟩
                · intro xs W hW hn
                  simp [flowNeeds, Region.binds] at hn
                  simp only [flowAct, zwc, zwn]
                  try simp only [hn]
                  go_wp2_with (fail)
                  exact ⟨rfl, _, rfl, Below.refl _ _, rfl⟩
              · intro xs W hW hall
                simp only [flowAll, and_true, Nat.zero_add, Nat.reduceAdd] at hall
                obtain ⟨-,-,-,-,-,-,-,-,-,-,-,-,-,-,-,-, eL⟩ := hall
                simp only [flowAct, zwc, zwn]
                simp only [eL]
                clear eL
                have HBy := Lib.hid (HBx.out.trans (hW.mono HBx.out.size))
                clear hW
                go_wp2
                go_roundw
                case rel => exact ⟨_, by omega, by go_num, HNN.out, HBy.out⟩
                case measure => simp [intOf]; omega
            · obtain ⟨p, rfl⟩ : ∃ p, i = p + 1 := ⟨i - 1, by omega⟩
              obtain ⟨bo', offo', ap, np, cp, ea, eu, enp, hcp, hatp⟩ := HL.out.place (k := p) (by omega)
              injection ea with ea
              injection ea with ea1 ea2
              subst ea1 ea2
              have hpp := HPR.out p (by omega)
              have HKEY2 := Lib.hid (HKEY.out (by first | rfl | trivial) (by omega))
              have HZERO2 := Lib.hid (fun h => HZERO.out ⟨by first | rfl | trivial, by first | rfl | trivial, fun _ => h⟩)
              clear HKEY HZERO
              simp only [Nat.add_sub_cancel] at HKEY2 HZERO2
              rw [hpp] at HKEY2 HZERO2
              simp only [Rw.pr] at HKEY2 HZERO2
              obtain ⟨kp, hkp⟩ : ∃ z, (L.getD p Rw.zero).k = z := ⟨_, rfl⟩
              rw [hkp] at HKEY2 HZERO2 hatp
              have htl := text_lss kp ko
              obtain ⟨tp, htp⟩ : ∃ z, text kp = z := ⟨_, rfl⟩
              rw [htp] at hatp
              rw [htp, HTO.out] at htl
              obtain ⟨BL, hBL⟩ : ∃ z, Op.bytesLess kp ko = z := ⟨_, rfl⟩
              have hlq : (Op.bytesLess to.toList tp.toList || to.toList == tp.toList) = !BL := by
                rw [← HTO.out, ← htp, text_lss, text_eqb, ← hBL]
                cases h1 : Op.bytesLess kp ko with
                | true =>
                  have h2 := strictT.asym h1
                  have hne : ko ≠ kp := fun e => by rw [e, strictT.irr] at h1; cases h1
                  simp [h2, hne]
                | false =>
                  cases h2 : Op.bytesLess ko kp with
                  | true => simp
                  | false =>
                    have := strictT.tot _ _ h1 h2
                    subst this
                    simp
              rw [hBL] at HKEY2 HZERO2 htl
              have HPW := Lib.hid hatp
              have hpi : (p : Int) < (m : Int) := by omega
              have hpc : (p : Int) < (capl : Int) := by omega
              have hps : ((p + 1 : Nat) : Int) - 1 = (p : Int) := by omega
              clear hatp htp hkp hBL hpp hcp eu enp
              refine wp_region_flow [none,none,none,none,none,none,none,none,none,none,none,none,none,none,none,none,none,none,none,none,none,none,none,none,none,none,none, some 0, some 1, some 2, some 3, some 4, some 5, some 6, some 7, some 8, some 9, some 10, some 11, some 12, some 13, some 14, some 15, some 16, none] (fun i => [u27, u28, u29, u30, u31, u32, u33, u34, u35, u36, u37, u38, u39, u40, u41, u42, u43].getD i undef) [(fun v _ => v = .agg #[.string to, .slice ao no co]), (fun v _ => v = .bool false), (fun v _ => v = .bool false), (fun v _ => v = .int .i64 ((p + 1 : Nat) : Int)), (fun v _ => v = .bool true), (fun v _ => v = .bool true), (fun v _ => v = .pointer (some ⟨gg, 0, none⟩)), (fun v _ => v = .string to), (fun v _ => v = .slice (some ⟨bo, offo, none⟩) m capl), (fun v _ => v = .int .i64 ((p + 1 : Nat) : Int)), (fun v _ => v = .int .i64 (p : Int)), (fun v _ => v = .pointer (some ⟨bo, offo + p * 2, none⟩)), (fun v _ => v = .pointer (some ⟨bo, offo + p * 2, none⟩)), (fun v _ => v = .string tp), (fun v _ => v = .bool (!BL)), (fun v _ => v = .bool (!BL)), (fun v _ => v = .bool (!BL))] (by kernel_rfl) (by kernel_rfl) rfl rfl rfl ?_ ?_ ?_
              · intro g hg v X Y hX hY hv
                simp only [List.mem_cons, List.not_mem_nil, or_false] at hg
                rcases hg with rfl | rfl | rfl | rfl | rfl | rfl | rfl | rfl | rfl | rfl | rfl | rfl | rfl | rfl | rfl | rfl | rfl
                all_goals first
                  | exact hv
                  | exact hv.kept hY
              · simp only [flowOps, and_true]
                refine ⟨?_,?_,?_,?_,?_,?_,?_,?_,?_,?_,?_,?_,?_,?_,?_,?_,?_⟩
                · intro xs W hW hn
                  obtain ⟨r0, r1, -⟩ := HRW.out W (HXx.out.trans (hW.mono HXx.out.size))
                  simp only [flowAct, zwc, zwn]
                  go_wp2_with (fail)
                  exact ⟨rfl, _, rfl, Below.refl _ _, rfl⟩
                · intro xs W hW hn
                  simp [flowNeeds, Region.binds] at hn
                  simp only [flowAct, zwc, zwn]
                  simp only [hn]
                  go_wp2_with (go_at_call 61; (with_reducible refine (HBR.out _ (HBx.out.trans (hW.mono HBx.out.size))).mono ?_); rintro e9 w9 ⟨rfl, hb9⟩)
                  exact ⟨rfl, _, rfl, hb9, rfl⟩
                · intro xs W hW hn
                  simp [flowNeeds, Region.binds] at hn
                  simp only [flowAct, zwc, zwn]
                  try simp only [hn]
                  go_wp2_with (fail)
                  exact ⟨rfl, _, rfl, Below.refl _ _, rfl⟩
                · intro xs W hW hn
                  simp [flowNeeds, Region.binds] at hn
                  simp only [flowAct, zwc, zwn]
                  try simp only [hn]
                  go_wp2_with (fail)
                  exact ⟨rfl, _, rfl, Below.refl _ _, rfl⟩
                · intro xs W hW hn
                  simp [flowNeeds, Region.binds] at hn
                  simp only [flowAct, zwc, zwn]
                  try simp only [hn]
                  go_wp2_with (fail)
                  exact ⟨rfl, _, rfl, Below.refl _ _, rfl⟩
                · intro xs W hW hn
                  simp [flowNeeds, Region.binds] at hn
                  simp only [flowAct, zwc, zwn]
                  try simp only [hn]
                  go_wp2_with (fail)
                  exact ⟨rfl, _, rfl, Below.refl _ _, rfl⟩
                · intro xs W hW hn
                  simp [flowNeeds, Region.binds] at hn
                  simp only [flowAct, zwc, zwn]
                  try simp only [hn]
                  go_wp2_with (fail)
                  exact ⟨rfl, _, rfl, Below.refl _ _, rfl⟩
                · intro xs W hW hn
                  obtain ⟨r0, r1, -⟩ := HRW.out W (HXx.out.trans (hW.mono HXx.out.size))
                  simp [flowNeeds, Region.binds] at hn
                  simp only [flowAct, zwc, zwn]
                  try simp only [hn]
                  go_wp2_with (fail)
                  exact ⟨rfl, _, rfl, Below.refl _ _, rfl⟩
                · intro xs W hW hn
                  simp [flowNeeds, Region.binds] at hn
                  simp only [flowAct, zwc, zwn]
                  try simp only [hn]
                  go_wp2_with (fail)
                  exact ⟨rfl, _, rfl, Below.refl _ _, rfl⟩
                · intro xs W hW hn
                  simp [flowNeeds, Region.binds] at hn
                  simp only [flowAct, zwc, zwn]
                  try simp only [hn]
                  go_wp2_with (fail)
                  exact ⟨rfl, _, rfl, Below.refl _ _, rfl⟩
                · intro xs W hW hn
                  simp [flowNeeds, Region.binds] at hn
                  simp only [flowAct, zwc, zwn]
                  try simp only [hn]
                  go_wp2_with (fail)
                  exact ⟨rfl, _, rfl, Below.refl _ _, rfl⟩
                · intro xs W hW hn
                  simp [flowNeeds, Region.binds] at hn
                  simp only [flowAct, zwc, zwn]
                  try simp only [hn]
                  go_wp2_with (fail)
                  exact ⟨rfl, _, rfl, Below.refl _ _, rfl⟩
                · intro xs W hW hn
                  simp [flowNeeds, Region.binds] at hn
                  simp only [flowAct, zwc, zwn]
                  try simp only [hn]
                  go_wp2_with (fail)
                  exact ⟨rfl, _, rfl, Below.refl _ _, rfl⟩
                · intro xs W hW hn
                  obtain ⟨p0, p1⟩ := HPW.out W (HBx.out.trans (hW.mono HBx.out.size))
                  simp [flowNeeds, Region.binds] at hn
                  simp only [flowAct, zwc, zwn]
                  try simp only [hn]
                  go_wp2_with (fail)
                  exact ⟨rfl, _, rfl, Below.refl _ _, rfl⟩
                · intro xs W hW hn
                  simp [flowNeeds, Region.binds] at hn
                  simp only [flowAct, zwc, zwn]
                  try simp only [hn]
                  go_wp2_with (fail)
                  exact ⟨rfl, _, rfl, Below.refl _ _, rfl⟩
                · intro xs W hW hn
                  simp [flowNeeds, Region.binds] at hn
                  simp only [flowAct, zwc, zwn]
                  try simp only [hn]
                  go_wp2_with (fail)
                  exact ⟨rfl, _, rfl, Below.refl _ _, rfl⟩
                · intro xs W hW hn
                  simp [flowNeeds, Region.binds] at hn
                  simp only [flowAct, zwc, zwn]
                  try simp only [hn]
                  go_wp2_with (fail)
                  exact ⟨rfl, _, rfl, Below.refl _ _, rfl⟩
              · intro xs W hW hall
                simp only [flowAll, and_true, Nat.zero_add, Nat.reduceAdd] at hall
                obtain ⟨-,-,-,-,-,-,-,-,-,-,-,-,-,-,-,-, eL⟩ := hall
                simp only [flowAct, zwc, zwn]
                simp only [eL]
                clear eL
                have HBy := Lib.hid (HBx.out.trans (hW.mono HBx.out.size))
                clear hW
                cases BL with
                | true =>
                  have HNN := Lib.hid (HNX.out (HZERO2.out rfl))
                  go_wp2
                  go_roundw
                  case rel => exact ⟨p + 1 + 1, by omega, by go_num, HNN.out, HBy.out⟩
                  case measure => simp [intOf]; omega
                | false =>
                  have HRR := Lib.hid ((HBADI.out (by rw [HKEY2.out rfl]; decide)).trans (HKEY2.out rfl))
                  go_wp2
                  go_ret
                  exact ⟨by rw [HRR.out]; rfl, HBy.out⟩
        · have HRR := Lib.hid ((HBADI.out (by rw [HROW.out hr0]; exact hr0)).trans (HROW.out hr0))
          clear HROW HBARE HKEY HZERO HNX HBADI
          go_wp2_with (go_at_call 60; (with_reducible refine HGC.out.mono ?_); rintro e9 w9 ⟨rfl, hb9⟩; have HB9 := Lib.hid (HB2.out.trans (hb9.mono HB2.out.size)); clear hb9)
          go_ret
          exact ⟨by rw [HRR.out]; rfl, HB9.out⟩
      · obtain rfl : m = i := by omega
        have HRR := Lib.hid (HYES.out (by first | rfl | trivial) HZ.out)
        go_wp2
        go_ret
        exact ⟨by rw [HRR.out]; rfl, HBx.out⟩
  · have HRR := Lib.hid (HPO.out h0)
    clear HPO HYES HBAD
    go_wp2_with (go_at_call 59; (with_reducible refine HPG.out.mono ?_); rintro e9 w9 ⟨rfl, hb9⟩)
    go_ret
    exact ⟨by rw [HRR.out]; rfl, hb9⟩
end Go.Proofs.Ytidbjmkfmfojdaa
end

section
namespace Go.Proofs.Ytidbjmkfmfojdaa
open Go.RowKit Go
set_option linter.unusedVariables false
variable {F : Fence} {n : Nat} {P : Program}

/-- The iterator's word. -/
def SeqTellsW {α : Type} (F : Fence) (n : Nat) (P : Program) (T : TypeId) (g : Nat) (lb : Array Value) (encs : α → Array Value) (Kp : World → World → Prop) (Qx : List α → α → World → Prop) (G : α → Prop) (S Sp : List α → World → Prop) (w : World) : Prop :=
  ∀ (l : Nat) (J Jx : List α → World → Prop) (W : World), Below w.heap.size w W → AbidesC W.heap.size T J →
    (∀ pre x W1, J pre W1 → Qx pre x W1 → YieldAt F (n - 1) P l (encs x) W1 (TellsR Kp G J Jx pre x W1)) → J [] W →
    CallsIn F n P g (#[.func (.yield l) #[] #[]] ++ lb) W fun e W' => (∃ v, e = .returned v) ∧ ((∃ xs, S xs W' ∧ J xs W') ∨ (∃ pre, Sp pre W' ∧ Jx pre W'))

theorem wpIn_range_tellsW {α : Type} {g : Operand} {ps : Array Tmp} {assign body : Code} {Q : Exit → Act → World → Prop} {a : Act} {w : World}
    (hro : F.round = none) (h1 : 1 ≤ n) {gf : Nat} {lb : Array Value} (hg : a.eval g = .func (.func gf) #[] lb) (hFg : F.fn gf) (eg : ∀ args w, (callFunc gf args).run P w = .ok (.enter gf args) w)
    {encs : α → Array Value} {Kp : World → World → Prop} {Qx : List α → α → World → Prop} {G : α → Prop} {S Sp : List α → World → Prop} {T : TypeId} (hseq : SeqTellsW F (n - 1) P T gf lb encs Kp Qx G S Sp w)
    (hKt : ∀ {A B C : World}, Kp A B → Kp B C → Kp A C) (hKb : ∀ (W : World) (l : Nat) (o o' : Obj), w.heap.size ≤ l → W.heap[l]? = some o → o.isCells = false → o.isWalk = false → Kp W (W.putObj l o'))
    (hS : OwnFrom w.heap.size S) (hSp : OwnFrom w.heap.size Sp) (hps : ∀ x, (encs x).size = ps.size)
    (I : List α → World → Prop) (Ix : Code → List α → World → Prop) (hI : OwnT w.heap.size T I) (hIx : ∀ c, OwnFrom w.heap.size (Ix c)) (h0 : I [] w) (Ax : α → Act → World → Prop) (hAx : ∀ x a', OwnFrom w.heap.size (fun (_ : Unit) W => Ax x a' W))
    (hassign : ∀ (l : Nat) (pre : List α) (x : α) (W : World) (K : Act → World → Prop), I pre W → Qx pre x W → (∀ a' W', KeepsFrom w.heap.size W W' → Kp W W' → I pre W' → Ax x a' W' → K a' W') →
      assign.wpIn (F.inRound l) (n - 1 - 1) P (Exit.then K (fun _ _ _ => False)) { tmps := (ps.zip (encs x)).foldl (fun t (p, v) => t.setIfInBounds p v) a.tmps, defers := [] } W)
    (hbody : ∀ (l : Nat) (pre : List α) (x : α) (a' : Act) (W : World), I pre W → Ax x a' W → body.wpIn (F.inRound l) (n - 1 - 1) P (RoundPost w.heap.size Kp G I Ix pre x W) a' W)
    (hdone : ∀ (D : Nat) (xs : List α) (W : World), w.heap.size ≤ D → S xs W → I xs W → W.heap[D]? = some (.deferred (some [])) → Q .normal { a with defers := { target := .collected D, args := #[] } :: a.defers } W)
    (hstop : ∀ (D : Nat) (c : Code) (pre : List α) (W : World), w.heap.size ≤ D → Sp pre W → Ix c pre W → W.heap[D]? = some (.deferred (some [])) → c.wpIn F n P Q { a with defers := { target := .collected D, args := #[] } :: a.defers } W) :
    (Code.rangeFunc g ps assign body).wpIn F n P Q a w := by
  refine wpIn_rangeFunc fun fn hfn => ?_
  rw [hro]
  obtain ⟨rec, hrec⟩ : ∃ rec : LoopState → Option Code → Loop, rec = fun st pe => { state := st, pending := pe, fn, tmps := a.tmps, params := ps, assign, body, defers := w.heap.size } := ⟨_, rfl⟩
  obtain ⟨W1, hW1⟩ : ∃ W1, (w.alloc (.deferred (some []))).alloc (.loop (rec .ready none)) = W1 := ⟨_, rfl⟩
  have hL1 : W1.heap[w.heap.size + 1]? = some (.loop (rec .ready none)) := by
    rw [← hW1]; have := World.alloc_heap_new (w.alloc (.deferred (some []))) (.loop (rec .ready none)); rwa [World.size_alloc] at this
  have hK1 : W1.heap[w.heap.size]? = some (.deferred (some [])) := by
    rw [← hW1]; exact (Below.heap_alloc _ _ _ (by simp)).trans (World.alloc_heap_new w _)
  have hI1 : I [] W1 := by rw [← hW1]; exact hI.from.alloc _ (hI.from.alloc _ h0)
  have hb1 : Below w.heap.size w W1 := by
    rw [← hW1]; exact ((Below.refl _ w).alloc (Nat.le_refl _) _).alloc (by simp) _
  refine ⟨w.heap.size + 1, [{ target := .collected w.heap.size, args := #[] }], W1, { target := .fn (.func gf) lb, args := #[.func (.yield (w.heap.size + 1)) #[] #[]] }, W1, gf,
    #[.func (.yield (w.heap.size + 1)) #[] #[]] ++ lb, W1, ?_,?_,?_,?_, fun _ => h1, ?_⟩
  · rw [← hW1, hrec]; exact run_enterLoop_outer _ _ _ _ _
  · simp only [resolve, hg]
    simp [go_sem]
  · intro f' hf'; simp [Target.leads] at hf'; subst hf'; exact hFg
  · simp [invoke, go_sem, eg]
  have hnw : ∀ {A B : World} {row : Option Nat}, (∀ r, row = some r → W1.heap.size ≤ r ∧ ∃ o : Obj, A.heap[r]? = some o ∧ (o.isWalk = true ∨ ∃ cs fr, o = .cells cs T fr)) → (∀ r, row = some r → w.heap.size ≤ r ∧ ∃ o : Obj, A.heap[r]? = some o ∧ (o.isCells = false ∨ ∃ cs fr, o = .cells cs T fr)) :=
    fun hr r e => by obtain ⟨hB, o, ho, hw⟩ := hr r e; exact ⟨by have := hb1.size; omega, o, ho, hw.imp_left Obj.not_cells_of_walk⟩
  have hloop : ∀ {A B : World} {row : Option Nat} {k : Nat} {o : Obj}, A.grownBy B row → (∀ r, row = some r → W1.heap.size ≤ r ∧ ∃ o : Obj, A.heap[r]? = some o ∧ (o.isWalk = true ∨ ∃ cs fr, o = .cells cs T fr)) → A.heap[k]? = some o → o.isWalk = false → o.isCells = false → B.heap[k]? = some o :=
    fun hg hr hk h1 h2 => (hg.block _ (Array.getElem?_eq_some_iff.1 hk).1 (fun e => by
      obtain ⟨_, o', ho, hc⟩ := hr _ e.symm
      rw [hk] at ho
      cases ho
      rcases hc with hc | ⟨cs, fr, hc⟩
      · rw [hc] at h1; cases h1
      · rw [hc] at h2; cases h2)).trans hk
  refine (hseq (w.heap.size + 1)
    (fun pre W => I pre W ∧ W.heap[w.heap.size + 1]? = some (.loop (rec .ready none)) ∧ W.heap[w.heap.size]? = some (.deferred (some [])))
    (fun pre W => ∃ c, Ix c pre W ∧ W.heap[w.heap.size + 1]? = some (.loop (rec .done (some c))) ∧ W.heap[w.heap.size]? = some (.deferred (some [])))
    W1 hb1
    (fun s A B row hs hg' hr => ⟨hI s A B row hs.1 hg' (hnw (B := B) hr), hloop hg' hr hs.2.1 rfl rfl, hloop hg' hr hs.2.2 rfl rfl⟩)
    ?_ ⟨hI1, hL1, hK1⟩).mono ?_
  · -- one round
    rintro pre x W ⟨hi, hl, hk⟩ hqx
    have hy := run_yield (P := P) (args := encs x) hl (by rw [hrec]; exact hps x)
    rw [hrec] at hy
    refine ⟨fn, _, assign, body, hy, roundIn_of_wpIn hfn (hassign _ pre x W _ hi hqx ?_)⟩
    clear hy
    intro a' Wa hkfa hkpa hia hax
    have hla := hkfa.same _ _ (by omega) hl rfl
    have hka := hkfa.same _ _ (Nat.le_refl _) hk rfl
    have hlt : w.heap.size + 1 < Wa.heap.size := (Array.getElem?_eq_some_iff.1 hla).1
    refine ⟨_, run_beginRound hla (by rw [hrec]), ?_⟩
    obtain ⟨Wb, hWb⟩ : ∃ Wb, Wa.putObj (w.heap.size + 1) (.loop { rec .ready none with state := .busy }) = Wb := ⟨_, rfl⟩
    have hlb : Wb.heap[w.heap.size + 1]? = some (.loop { rec .ready none with state := .busy }) := by rw [← hWb]; exact World.putObj_heap_same hlt
    have hkb : Wb.heap[w.heap.size]? = some (.deferred (some [])) := by rw [← hWb]; exact (World.putObj_heap_other (by omega)).trans hka
    have hwb : Kp W Wb := hKt hkpa (by rw [← hWb]; exact hKb _ _ _ _ (by omega) hla rfl rfl)
    have hib : I pre Wb := by rw [← hWb]; exact hI.from.putObj _ hia (by omega) hla rfl
    have hab : Ax x a' Wb := by rw [← hWb]; exact (hAx x a').putObj (s := ()) _ hax (by omega) hla rfl
    rw [hWb]
    refine wpIn_mono (hbody _ pre x a' Wb hib hab) ?_
    have fin : ∀ (jump : Option Code) (W3 : World), KeepsFrom w.heap.size Wb W3 → Kp Wb W3 →
        ∃ W4, (Instr.endRound (w.heap.size + 1) jump).run P W3 = .ok (.bool jump.isNone) W4 ∧ W4 = W3.putObj (w.heap.size + 1) (.loop (rec (if jump.isNone then .ready else .done) jump)) ∧
        W3.heap[w.heap.size + 1]? = some (.loop { rec .ready none with state := .busy }) ∧
        W4.heap[w.heap.size + 1]? = some (.loop (rec (if jump.isNone then .ready else .done) jump)) ∧ W4.heap[w.heap.size]? = some (.deferred (some [])) ∧ Kp W W4 := fun jump W3 hk3 hp3 => by
      have hl3 := hk3.same _ _ (by omega) hlb rfl
      have hr := run_endRound (P := P) jump hl3
      rw [hrec] at hr
      refine ⟨_, hr, by rw [hrec], hl3, ?_,?_, hKt hwb (hKt hp3 (hKb _ _ _ _ (by omega) hl3 rfl rfl))⟩
      · rw [hrec]; exact World.putObj_heap_same (Array.getElem?_eq_some_iff.1 hl3).1
      · exact (World.putObj_heap_other (by omega)).trans (hk3.same _ _ (Nat.le_refl _) hkb rfl)
    have leaves : ∀ (c : Code) (W3 : World), KeepsFrom w.heap.size Wb W3 → Kp Wb W3 → Ix c (pre ++ [x]) W3 → ∃ v W4, (Instr.endRound (w.heap.size + 1) (some c)).run P W3 = .ok v W4 ∧
        TellsR Kp G (fun pre W => I pre W ∧ W.heap[w.heap.size + 1]? = some (.loop (rec .ready none)) ∧ W.heap[w.heap.size]? = some (.deferred (some [])))
          (fun pre W => ∃ c, Ix c pre W ∧ W.heap[w.heap.size + 1]? = some (.loop (rec .done (some c))) ∧ W.heap[w.heap.size]? = some (.deferred (some []))) pre x W (.returned v) W4 := fun c W3 hk3 hp3 hi3 => by
      obtain ⟨W4, hr, rfl, hl3, hl4, hk4, hp4⟩ := fin (some c) W3 hk3 hp3
      exact ⟨_, _, hr, .inr ⟨rfl, ⟨c, (hIx _).putObj _ hi3 (by omega) hl3 rfl, hl4, hk4⟩, hp4⟩⟩
    rintro e a3 W3 hp
    cases e with
    | normal =>
      obtain ⟨hk3, hp3, hgx, hi3⟩ := hp
      obtain ⟨W4, hr, rfl, hl3, hl4, hk4, hp4⟩ := fin none W3 hk3 hp3
      exact ⟨_, _, hr, .inl ⟨rfl, ⟨hI.from.putObj _ hi3 (by omega) hl3 rfl, hl4, hk4⟩, hp4, hgx⟩⟩
    | ret => exact leaves .ret W3 hp.1 hp.2.1 hp.2.2
    | exit id => exact leaves (.exit id) W3 hp.1 hp.2.1 hp.2.2
    | goto t => exact leaves (.goto t) W3 hp.1 hp.2.1 hp.2.2
    | panic ch => exact hp.elim
    | outgrown => exact hp.elim
  · -- behind the iterator
    rintro e W2 ⟨⟨v, rfl⟩, (⟨xs, hSx, hi, hl, hk⟩ | ⟨pre, hSx, c, hi, hl, hk⟩)⟩
    · exact ⟨none, _, by have := run_endLoop (P := P) hl (by rw [hrec]; simp); rw [hrec] at this; exact this, hdone _ xs _ (Nat.le_refl _) (hS.putObj _ hSx (by omega) hl rfl) (hI.from.putObj _ hi (by omega) hl rfl) ((World.putObj_heap_other (by omega)).trans hk)⟩
    · exact ⟨some c, _, by have := run_endLoop (P := P) hl (by rw [hrec]; simp); rw [hrec] at this; exact this, hstop _ c pre _ (Nat.le_refl _) (hSp.putObj _ hSx (by omega) hl rfl) ((hIx c).putObj _ hi (by omega) hl rfl) ((World.putObj_heap_other (by omega)).trans hk)⟩
end Go.Proofs.Ytidbjmkfmfojdaa
end

section
namespace Go.Proofs.Ytidbjmkfmfojdaa
open Go.RowKit Go Go.Sort
set_option linter.unusedVariables false
set_option maxRecDepth 20000

attribute [local go_sem] Oper.semAt_some
/-- What is to be seen of a row, with its slice of fields as it stands in memory. -/
structure Vx where
  k : List UInt8
  fs : List Fld
  v : Value
abbrev Vp := List UInt8 × List Fld
def Vx.pr (x : Vx) : Vp := (x.k, x.fs)
def vxenc (x : Vx) : Array Value := #[.agg #[.string (text x.k), x.v]]
def FldV (l : List Fld) (v : Value) (W : World) : Prop := ∃ a c, v = .slice a l.length c ∧ Flds W a l.length c l ∧ (0 < l.length → ∀ q off, a = some ⟨q, off, none⟩ → ∃ cur fr, W.heap[q]? = some (.cells cur 96 fr))
theorem FldV.kept {l : List Fld} {v : Value} {X Y : World} (h : FldV l v X) (hb : Below X.heap.size X Y) : FldV l v Y := by
  obtain ⟨a, c, e, hf, ht⟩ := h
  refine ⟨a, c, e, hf.below hb, fun hp q off ea => ?_⟩
  obtain ⟨cur, fr, hx⟩ := ht hp q off ea
  exact ⟨cur, fr, (hb.block q (Array.getElem?_eq_some_iff.1 hx).1).trans hx⟩
theorem FldV.of_own {W : World} {B : Nat} {v : Value} {l : List Fld} (h : OwnF W B v l) : FldV l v W := by
  obtain ⟨a, c, e, hf⟩ := OwnF.flds h
  subst e
  refine ⟨a, c, rfl, hf, fun hp q off ea => ?_⟩
  obtain ⟨h1, ⟨ev, hn⟩ | ⟨g, cap, cur, ev, hB, hg, -⟩⟩ := h
  · omega
  · injection ev with e1
    rw [ea] at e1
    injection e1 with e1
    injection e1 with e1
    subst e1
    exact ⟨cur, _, hg⟩
def vwOf (gs : List Grp) (ch : List UInt8 → Bool) (r : Rp) : Option Vp := if ch r.1 = true then (if (viewS gs r.1 r.2).2.2 = true then some ((viewS gs r.1 r.2).1, (viewS gs r.1 r.2).2.1) else none) else none
/-- The views of those rows that are chosen. -/
def vwsS (gs : List Grp) (ch : List UInt8 → Bool) (R : List Rp) : List Vp := if mgoodS gs R = 0 then R.filterMap (vwOf gs ch) else []
theorem vws_bad {gs : List Grp} {ch : List UInt8 → Bool} {R : List Rp} (h : ¬ mgoodS gs R = 0) : vwsS gs ch R = [] := by unfold vwsS; rw [if_neg h]
theorem vws_ok {gs : List Grp} {ch : List UInt8 → Bool} {R : List Rp} (h : mgoodS gs R = 0) : vwsS gs ch R = R.filterMap (vwOf gs ch) := by unfold vwsS; rw [if_pos h]
theorem vws_take {f : Rp → Option Vp} {R : List Rp} {k : Nat} (h : k < R.length) : (R.take (k + 1)).filterMap f = (R.take k).filterMap f ++ (f (R.getD k ([], []))).toList := by
  rw [List.take_add_one, List.getElem?_eq_getElem h, List.getD_eq_getElem?_getD, List.getElem?_eq_getElem h, List.filterMap_append]
  simp only [Option.toList_some, Option.getD_some]
  cases hf : f R[k] <;> simp [hf]
theorem vws_pre {f : Rp → Option Vp} {R : List Rp} (k : Nat) : (R.take k).filterMap f <+: R.filterMap f := by
  conv => rhs; rw [← List.take_append_drop k R, List.filterMap_append]
  exact List.prefix_append _ _
theorem vw_no {gs : List Grp} {ch : List UInt8 → Bool} {k : List UInt8} {cs : List Cl} (h : ch k = false) : vwOf gs ch (k, cs) = none := by unfold vwOf; rw [if_neg (by rw [h]; decide)]
theorem vw_none {gs : List Grp} {ch : List UInt8 → Bool} {k : List UInt8} {cs : List Cl} (h : ch k = true) (h2 : (viewS gs k cs).2.2 = false) : vwOf gs ch (k, cs) = none := by unfold vwOf; rw [if_pos h, if_neg (by rw [h2]; decide)]
theorem vw_some {gs : List Grp} {ch : List UInt8 → Bool} {k : List UInt8} {cs : List Cl} (h : ch k = true) (h2 : (viewS gs k cs).2.2 = true) : vwOf gs ch (k, cs) = some ((viewS gs k cs).1, (viewS gs k cs).2.1) := by unfold vwOf; rw [if_pos h, if_pos h2]

set_option maxRecDepth 100000 in
set_option maxHeartbeats 400000 in
theorem views_c {w : World} {x xl : Option Addr} {n1 cap m capl cf : Nat} {lb : Array Value} :
    Calls Try.prog 67 #[.slice x n1 cap, .slice xl m capl, .func (.func cf) #[] lb] w fun e w' => e = .returned (.func (.func 91) #[] #[.pointer (some ⟨w.heap.size, 0, none⟩), .pointer (some ⟨w.heap.size + 1, 0, none⟩), .pointer (some ⟨w.heap.size + 1 + 1, 0, none⟩)]) ∧
      w' = ((w.alloc (.cells #[.slice x n1 cap] 60)).alloc (.cells #[.slice xl m capl] 27)).alloc (.cells #[.func (.func cf) #[] lb] 39) := by
  go_enter Try.func67, Try.ntmps67
  go_wp2
  go_ret
  exact ⟨by simp, rfl⟩

theorem get1_c (k : List UInt8) (t : List UInt8) (q : Nat) (W : World) (h : W.heap[q]? = some (.cells #[.string (text t)] 9 (0, 0))) : Calls Try.prog 68 #[.string (text k), .pointer (some ⟨q, 0, none⟩)] W (Tells (.bool (k == t)) W) := by
  have hc : W.cell? ⟨q, 0, none⟩ = some (.string (text t)) := by rw [cell_of_row _ q 0 _ _ (0, 0) h]; rfl
  have hte := text_eqb k t
  obtain ⟨u, hu⟩ : ∃ z, text k = z := ⟨_, rfl⟩
  obtain ⟨u', hu'⟩ : ∃ z, text t = z := ⟨_, rfl⟩
  rw [hu, hu'] at hte
  rw [hu'] at hc
  rw [hu]
  obtain ⟨R, hR⟩ : ∃ z, (k == t) = z := ⟨_, rfl⟩
  rw [hR] at hte ⊢
  clear hu hu' hR h
  go_enter Try.func68, Try.ntmps68
  go_wp2
  go_ret
  exact ⟨rfl, Below.refl _ _⟩

set_option maxRecDepth 100000 in
set_option maxHeartbeats 6400000 in
theorem views_tells {w0 w : World} {x xl : Option Addr} {n1 cap m capl : Nat} {gs : List Grp} {L : List Rw} (hg : Grs w0 x n1 cap gs) (hs : ∀ g ∈ gs, g.1.length ≤ 9223372036854775807) (hl : RwsAt w0 xl m capl L) (hsh : RShort L) (hw : Below w0.heap.size w0 w) (N Bl Br Bc q1 : Nat) (Bs : Nat → Prop) (ch : List UInt8 → Bool)
    (hcl : w.heap[Bl]? = some (.cells #[.slice x n1 cap] 60 (0, 0))) (hcr : w.heap[Br]? = some (.cells #[.slice xl m capl] 27 (0, 0))) (hcc : w.heap[Bc]? = some (.cells #[.func (.func 68) #[] #[.pointer (some ⟨q1, 0, none⟩)]] 39 (0, 0)))
    (hs1 : Bs Bl) (hs2 : Bs Br) (hs3 : Bs Bc) (hch : ∀ (k : List UInt8) (W : World), KP w0.heap.size Bs w W → Calls Try.prog 68 (#[.string (text k)] ++ #[.pointer (some ⟨q1, 0, none⟩)]) W (Tells (.bool (ch k)) W)) :
    SeqTellsW Fence.wide N Try.prog 133 91 #[.pointer (some ⟨Bl, 0, none⟩), .pointer (some ⟨Br, 0, none⟩), .pointer (some ⟨Bc, 0, none⟩)] vxenc (KP w0.heap.size Bs) (fun pre x W => (pre ++ [x]).map Vx.pr <+: vwsS gs ch (L.map Rw.pr) ∧ FldV x.fs x.v W) (fun _ => True)
      (fun xs _ => xs.map Vx.pr = vwsS gs ch (L.map Rw.pr)) (fun _ _ => True) w := fun q J Jx W hW hJ hY h0 => by
  have hll := hl.1.len
  have hle := hl.1.le
  have hmax := hl.1.max
  have hBl := (Array.getElem?_eq_some_iff.1 hcl).1
  have hBr := (Array.getElem?_eq_some_iff.1 hcr).1
  have hBc := (Array.getElem?_eq_some_iff.1 hcc).1
  have hW0 : w0.heap.size ≤ W.heap.size := Nat.le_trans hw.size hW.size
  have hkW : KP w0.heap.size Bs w W := KP.of_below hw.size hW
  have hcell : W.cell? ⟨Bl, 0, none⟩ = some (.slice x n1 cap) := by
    have := (hW.block Bl hBl).trans hcl
    simp [World.cell?, this]
  have hcell2 : W.cell? ⟨Br, 0, none⟩ = some (.slice xl m capl) := by
    have := (hW.block Br hBr).trans hcr
    simp [World.cell?, this]
  have HGD := Lib.hid (mgood_c (hg.below (hw.trans (hW.mono hw.size))) hs (hl.below (hw.trans (hW.mono hw.size))) hsh)
  have HVW := Lib.hid (fun W' (h : Below w0.heap.size w0 W') (k : Nat) (hk : k < m) (u : Option Addr) (n c : Nat) (hu : Cls W' u n c (L.getD k Rw.zero).cs) => view_c (hg.below h) hs hu (hsh _ (rw_mem (L := L) (k := k) (by omega))).2 (L.getD k Rw.zero).k (hsh _ (rw_mem (L := L) (k := k) (by omega))).1)
  have HVB := Lib.hid (fun h => vws_bad (gs := gs) (ch := ch) (R := L.map Rw.pr) h)
  have HVO := Lib.hid (fun h => vws_ok (gs := gs) (ch := ch) (R := L.map Rw.pr) h)
  have HVT := Lib.hid (fun k (hk : k < m) => (show ((L.map Rw.pr).take (k + 1)).filterMap (vwOf gs ch) = ((L.map Rw.pr).take k).filterMap (vwOf gs ch) ++ (vwOf gs ch (L.getD k Rw.zero).pr).toList from by
    rw [vws_take (by rw [List.length_map]; omega), prs_at (by omega)]))
  have HVP := Lib.hid (fun k => vws_pre (f := vwOf gs ch) (R := L.map Rw.pr) k)
  have HVM := Lib.hid (show ((L.map Rw.pr).take m).filterMap (vwOf gs ch) = (L.map Rw.pr).filterMap (vwOf gs ch) by rw [List.take_of_length_le (by rw [List.length_map]; omega)])
  obtain ⟨VS, hVS⟩ : ∃ z, vwsS gs ch (L.map Rw.pr) = z := ⟨_, rfl⟩
  rw [hVS] at HVB HVO
  rw [hVS] at hY
  rw [hVS]
  obtain ⟨MG, hMG⟩ : ∃ z, mgoodS gs (L.map Rw.pr) = z := ⟨_, rfl⟩
  rw [hMG] at HGD HVB HVO
  obtain ⟨VK, hVK⟩ : ∃ VK : Nat → List Vp, VK = fun k => ((L.map Rw.pr).take k).filterMap (vwOf gs ch) := ⟨_, rfl⟩
  have HV0 := Lib.hid (show VK 0 = [] by rw [hVK]; rfl)
  have HVKS := Lib.hid (fun k (hk : k < m) => (show VK (k + 1) = VK k ++ (vwOf gs ch (L.getD k Rw.zero).pr).toList from by rw [hVK]; exact HVT.out k hk))
  have HVKP := Lib.hid (fun (h : MG = 0) k => (show VK k <+: VS from by rw [hVK, HVO.out h]; exact HVP.out k))
  have HVKM := Lib.hid (fun (h : MG = 0) => (show VK m = VS from by rw [hVK, HVO.out h]; exact HVM.out))
  have HL := Lib.hid hl
  have HG := Lib.hid hg
  have HCH := Lib.hid hch
  have HYY := Lib.hid @hY
  clear hVS hMG hVK HVT HVP HVM HVO hl hg hsh hs hll hch
  refine callsIn_of_wp Try.func91 rfl trivial ?_ rfl
  simp only [Try.ntmps91, List.size_toArray, List.length_cons, List.length_nil, Nat.reduceAdd, Nat.reduceSub, Array.replicate_succ, Array.replicate_zero, List.push_toArray, List.append_toArray, List.nil_append, List.cons_append]
  gi_wp2_with fail
  refine ⟨trivial, fun h => (by cases h), (callsIn_wide.2 HGD.out).mono ?_⟩
  rintro e w1 ⟨rfl, hb1⟩
  have hj1 := hJ [] W w1 none h0 (grown_none hb1) (fun r e => by cases e)
  have hk1 : KP w0.heap.size Bs w w1 := hkW.trans (KP.of_below hW0 hb1)
  have hs1w : W.heap.size ≤ w1.heap.size := hb1.size
  have hbr1 := hk1.box Br _ hs2 hcr
  have hcell2 : w1.cell? ⟨Br, 0, none⟩ = some (.slice xl m capl) := by simp [World.cell?, hbr1]
  clear hcell hb1 HGD hbr1
  by_cases hz : MG = 0
  · subst hz
    gi_wp2_with fail
    gi_loopw [15] (fun p wr => ∃ (pre : List Vx) (k : Nat), p = .int .i64 k ∧ k ≤ m ∧ pre.map Vx.pr = VK k ∧ J pre wr ∧ KP w0.heap.size Bs w wr ∧ W.heap.size ≤ wr.heap.size)
      (fun p wr => m - placeOf p)
    case atStart => exact ⟨[], 0, rfl, Nat.zero_le _, HV0.out.symm, hj1, hk1, hs1w⟩
    case round =>
      clear hcell2 hj1 hk1 hs1w
      obtain ⟨pre, k, rfl, hk, hpl, hJp, hkp, hsW⟩ := hrel
      by_cases hlt : k < m
      · have hki : (k : Int) < (m : Int) := by omega
        have hkc : (k : Int) < (capl : Int) := by omega
        obtain ⟨bo, offo, ao, no, co, rfl, eu, eno, hco, hat⟩ := HL.out.place hlt
        have hVW := fun W' (h : Below w0.heap.size w0 W') => HVW.out W' h k hlt ao no co (hco.below h)
        have hks := HVKS.out k hlt
        have hpre := HVKP.out (by first | rfl | trivial) (k + 1)
        have hbw := hw.trans (hkp.below.mono (Nat.le_refl _))
        obtain ⟨y, hy⟩ : ∃ y, L.getD k Rw.zero = y := ⟨_, rfl⟩
        rw [hy] at hat eu hVW hks
        obtain ⟨ko, uo, cso⟩ := y
        simp only [Rw.pr] at hat eu hVW hks
        have hv1 := fun h => @vw_no gs ch ko cso h
        have hv2 := fun h h2 => @vw_none gs ch ko cso h h2
        have hv3 := fun h h2 => @vw_some gs ch ko cso h h2
        obtain ⟨to, hto⟩ : ∃ z, text ko = z := ⟨_, rfl⟩
        have hCHK := fun W' h => HCH.out ko W' h
        simp only [hto] at hat hVW hCHK
        obtain ⟨CK, hCK⟩ : ∃ z, ch ko = z := ⟨_, rfl⟩
        rw [hCK] at hv1 hv2 hv3
        simp only [hCK] at hCHK
        obtain ⟨⟨VA, VF, VB⟩, hVV⟩ : ∃ z, viewS gs ko cso = z := ⟨_, rfl⟩
        rw [hVV] at hv2 hv3
        simp only [hVV] at hVW
        simp only at hv2 hv3
        obtain ⟨o0, o1⟩ := hat wr hbw
        have HKS := Lib.hid hks
        have HPRE := Lib.hid hpre
        have HV1 := Lib.hid hv1
        have HV2 := Lib.hid hv2
        have HV3 := Lib.hid hv3
        have HVWK := Lib.hid hVW
        have HCHK := Lib.hid hCHK
        have HPL := Lib.hid hpl
        have HJ := Lib.hid hJp
        have HKP := Lib.hid hkp
        have HSW := Lib.hid hsW
        have HBX := Lib.hid (alloc_below wr (.cells #[.string to, .slice ao no co] 30))
        have hnew := heap_alloc_new wr (.cells #[.string to, .slice ao no co] 30)
        have hbc := hkp.box Bc _ hs3 hcc
        have hbl := hkp.box Bl _ hs1 hcl
        clear hy eu eno hco hat hks hpre hv1 hv2 hv3 hVW hCHK hpl hJp hkp hsW hbw hVV hCK hto
        have hbc3 := heap_below hbc HBX.out
        have hbl3 := heap_below hbl HBX.out
        have c3 : (wr.alloc (.cells #[.string to, .slice ao no co] 30)).cell? ⟨Bc, 0, none⟩ = some (.func (.func 68) #[] #[.pointer (some ⟨q1, 0, none⟩)]) := by simp [World.cell?, hbc3]
        have HK3 := Lib.hid (HKP.out.trans (KP.of_below (Nat.le_trans hW0 HSW.out) HBX.out))
        have HS3 := Lib.hid (Nat.le_trans HSW.out HBX.out.size)
        have HJ3 := Lib.hid (hJ pre wr _ none HJ.out (grown_none HBX.out) (fun r e => by cases e))
        clear hbc hbl
        gi_wp2_with fail
        refine ⟨trivial, fun h => (by cases h), (callsIn_wide.2 (HCHK.out _ HK3.out)).mono ?_⟩
        rintro e w2 ⟨rfl, hb2⟩
        clear c3 o0 o1
        obtain ⟨g, hg⟩ : ∃ z, wr.heap.size = z := ⟨_, rfl⟩
        obtain ⟨W3, hW3⟩ : ∃ X, wr.alloc (.cells #[.string to, .slice ao no co] 30) = X := ⟨_, rfl⟩
        rw [hg, hW3] at hnew
        rw [hW3] at hb2 HK3 HS3 HJ3 hbl3
        rw [hg]
        have HK4 := Lib.hid (HK3.out.trans (KP.of_below (Nat.le_trans hW0 HS3.out) hb2))
        have HS4 := Lib.hid (Nat.le_trans HS3.out hb2.size)
        have HJ4 := Lib.hid (hJ pre _ w2 none HJ3.out (grown_none hb2) (fun r e => by cases e))
        have hn2 := heap_below hnew hb2
        have hl2 := heap_below hbl3 hb2
        clear hbl3 hnew hb2 hbc3 hW3 hg HK3 HS3 HJ3 HJ HKP HSW HBX HCHK W3
        cases CK with
        | false =>
          have HVN := Lib.hid (show pre.map Vx.pr = VK (k + 1) by rw [HKS.out, HV1.out (by first | rfl | trivial), HPL.out]; simp)
          clear hn2 hl2
          gi_wp2
          go_roundw
          case rel => exact ⟨pre, k + 1, by go_num, by omega, HVN.out, HJ4.out, HK4.out, HS4.out⟩
          case measure => simp [placeOf]; omega
        | true =>
          obtain ⟨n0, n1', -⟩ := row_cells hn2
          have l2 : w2.cell? ⟨Bl, 0, none⟩ = some (.slice x n1 cap) := by simp [World.cell?, hl2]
          have HVWC := Lib.hid (HVWK.out w2 (hw.trans HK4.out.below))
          clear hn2 hl2
          gi_wp2_with fail
          refine ⟨trivial, fun h => (by cases h), (callsIn_wide.2 HVWC.out).mono ?_⟩
          rintro e w5 ⟨fv, rfl, hof, hb5⟩
          obtain ⟨a9, c9, rfl, hfl⟩ := OwnF.flds hof
          have hal := alloc_below w5 (.cells #[.string (text VA), .slice a9 VF.length c9] 80)
          have HB6 := Lib.hid (hb5.trans (hal.mono hb5.size))
          have HK6 := Lib.hid (HK4.out.trans (KP.of_below (Nat.le_trans hW0 HS4.out) HB6.out))
          have HS6 := Lib.hid (Nat.le_trans HS4.out HB6.out.size)
          have HJ6 := Lib.hid (hJ pre _ (w5.alloc (.cells #[.string (text VA), .slice a9 VF.length c9] 80)) none HJ4.out (grown_none HB6.out) (fun r e => by cases e))
          have HFV := Lib.hid (show FldV VF (.slice a9 VF.length c9) (w5.alloc (.cells #[.string (text VA), .slice a9 VF.length c9] 80)) from (FldV.of_own hof).kept hal)
          clear hof hfl hal hb5 n0 n1' l2 HVWC HK4 HS4 HJ4
          cases VB with
          | false =>
            have HVN := Lib.hid (show pre.map Vx.pr = VK (k + 1) by rw [HKS.out, HV2.out (by first | rfl | trivial) (by first | rfl | trivial), HPL.out]; simp)
            gi_wp2
            refine ⟨fun f h => (by cases h), ?_⟩
            gi_wp2
            go_roundw
            case rel => exact ⟨pre, k + 1, by go_num, by omega, HVN.out, HJ6.out, HK6.out, HS6.out⟩
            case measure => simp [placeOf]; omega
          | true =>
            have HVN := Lib.hid (show (pre ++ [(⟨VA, VF, .slice a9 VF.length c9⟩ : Vx)]).map Vx.pr = VK (k + 1) by rw [HKS.out, HV3.out (by first | rfl | trivial) (by first | rfl | trivial), List.map_append, HPL.out]; rfl)
            obtain ⟨fn, tmps, assign, body, hy, hR⟩ := HYY.out pre ⟨VA, VF, .slice a9 VF.length c9⟩ _ HJ6.out ⟨by rw [HVN.out]; exact HPRE.out, HFV.out⟩
            unfold vxenc at hy
            simp only at hy
            gi_wp2_with fail
            refine ⟨fun h => (by cases h), hR.mono ?_⟩
            rintro e9 W2 (⟨rfl, hJ2, hk2, -⟩ | ⟨rfl, hJx2, hk2⟩)
            · have HK7 := Lib.hid (HK6.out.trans hk2)
              have HS7 := Lib.hid (Nat.le_trans HS6.out hk2.below.size)
              have HJ7 := Lib.hid hJ2
              clear hy hR hJ2 hk2
              gi_wp2
              go_roundw
              case rel => exact ⟨pre ++ [⟨VA, VF, .slice a9 VF.length c9⟩], k + 1, by go_num, by omega, HVN.out, HJ7.out, HK7.out, HS7.out⟩
              case measure => simp [placeOf]; omega
            · gi_wp2
              refine bodyPost_ret (results_none rfl _ _ _) rfl ?_
              exact ⟨⟨_, rfl⟩, .inr ⟨_, trivial, hJx2⟩⟩
      · obtain rfl : k = m := by omega
        have hfin := HVKM.out (by first | rfl | trivial)
        gi_wp2
        go_end0
        exact ⟨⟨_, rfl⟩, .inl ⟨pre, hpl.trans hfin, hJp⟩⟩
  · have hvb := HVB.out hz
    gi_wp2
    refine bodyPost_ret (results_none rfl _ _ _) rfl ?_
    exact ⟨⟨_, rfl⟩, .inl ⟨[], hvb.symm, hj1⟩⟩
end Go.Proofs.Ytidbjmkfmfojdaa
end

section
namespace Go.Proofs.Ytidbjmkfmfojdaa
open Go.RowKit Go Go.Sort
set_option linter.unusedVariables false
set_option maxRecDepth 20000

attribute [local go_sem] Oper.semAt_some
theorem res_cell_cell {P : Program} {fn : Func} {p q : Tmp} {ty tz : TypeId} (h : fn.results = #[.cell p ty, .cell q tz]) (tmps : Array Value) (w : World) (g g2 : Nat) (t : TypeId) (cs : Array Value) (fr : Nat × Nat) (d d2 : TypeDesc) (v : Value)
    (hp : tmps.getD p undef = .pointer (some ⟨g, 0, none⟩)) (hq : tmps.getD q undef = .pointer (some ⟨g2, 0, none⟩)) (hg : w.heap[g]? = some (.cells cs t fr)) (hg2 : w.cell? ⟨g2, 0, none⟩ = some v)
    (hu : P.underlying ty = some d) (hd : (match d with | .struct _ | .array _ _ => true | _ => false) = true) (hi : (P.info? ty).map (·.size) = some cs.size) (hu2 : P.underlying tz = some d2) (hd2 : (match d2 with | .struct _ | .array _ _ => true | _ => false) = false) :
    (results fn tmps).run P w = .ok (.tuple #[.agg cs, v]) w := by
  have hp' : tmps[p]?.getD undef = .pointer (some ⟨g, 0, none⟩) := by simpa using hp
  have hq' : tmps[q]?.getD undef = .pointer (some ⟨g2, 0, none⟩) := by simpa using hq
  have hagg : (isAgg tz).run P w = .ok false w := by
    unfold isAgg
    rw [Sem.run_bind, run_underlying hu2 w]
    cases d2 <;> simp_all
  have h2 : (loadVar tz ⟨g2, 0, none⟩).run P w = .ok v w := by
    simp [loadVar, Sem.run_bind, hagg, go_sem, hg2]
  simp [results, h, hp', hq', asAddr, run_loadVar_row w g t ty cs fr d hg hu hd hi, h2]
theorem FldV.turn {l : List Fld} {v : Value} {W W' : World} {row : Option Nat} (h : FldV l v W) (hg : W.grownBy W' row) (hr : ∀ r, row = some r → ∃ o : Obj, W.heap[r]? = some o ∧ o.isCells = false) : FldV l v W' := by
  obtain ⟨a, c, e, hf, ht⟩ := h
  refine ⟨a, c, e, ⟨hf.len, hf.le, hf.max, ?_⟩, fun hp q off ea => ?_⟩
  · rcases hf.adr with h4 | ⟨b, off, ea, hc⟩
    · exact .inl h4
    · exact .inr ⟨b, off, ea, fun i hi => ⟨cell_kept (hc i hi).1 hg hr, cell_kept (hc i hi).2 hg hr⟩⟩
  · obtain ⟨cur, fr, hx⟩ := ht hp q off ea
    exact ⟨cur, fr, (grownBy_keeps_cells hg hr hx rfl).trans hx⟩
theorem FldV.cell {l : List Fld} {v : Value} {W : World} {q : Nat} (h : FldV l v W) (i : Nat) (u : Value) (hne : ∀ a n c b off, v = .slice a n c → 0 < n → a = some ⟨b, off, none⟩ → b ≠ q) : FldV l v (W.setCell ⟨q, i, none⟩ u) := by
  obtain ⟨a, c, e, hf, ht⟩ := h
  refine ⟨a, c, e, ⟨hf.len, hf.le, hf.max, ?_⟩, fun hp b off ea => ?_⟩
  · rcases hf.adr with h4 | ⟨b, off, ea, hc⟩
    · exact .inl h4
    · refine .inr ⟨b, off, ea, fun j hj => ?_⟩
      have hb := hne a _ c b off e (by omega) ea
      have key : ∀ i', (W.setCell ⟨q, i, none⟩ u).cell? ⟨b, i', none⟩ = W.cell? ⟨b, i', none⟩ := fun i' => by
        simp only [World.cell?, Below.heap_setCell W ⟨q, i, none⟩ u b hb]
      exact ⟨(key _).trans (hc j hj).1, (key _).trans (hc j hj).2⟩
  · obtain ⟨cur, fr, hx⟩ := ht hp b off ea
    exact ⟨cur, fr, (Below.heap_setCell W ⟨q, i, none⟩ u b (hne a _ c b off e hp ea)).trans hx⟩
theorem FldV.apart {l : List Fld} {v : Value} {W : World} (h : FldV l v W) {q : Nat} {cs : Array Value} {t : TypeId} {fr : Nat × Nat} (hq : W.heap[q]? = some (.cells cs t fr)) (hn : ∀ (i : Nat) (x : Int), cs[i]? ≠ some (.int .i64 x)) : ∀ a n c b off, v = .slice a n c → 0 < n → a = some ⟨b, off, none⟩ → b ≠ q := by
  intro a n c b off ev hp ea e
  subst ea e
  obtain ⟨a', c', e', hf, -⟩ := h
  rw [ev] at e'
  injection e' with e1 e2 e3
  subst e1 e2 e3
  rcases hf.adr with h4 | ⟨b2, off2, ea, hc⟩
  · have := hf.le; omega
  · injection ea with ea
    injection ea with ea1 ea2
    subst ea1 ea2
    have h1 := (hc 0 hp).1
    rw [cell_of_row _ b _ cs t fr hq] at h1
    exact hn _ _ h1
/-- What Get tells of rows. -/
def GetVPost (vs : List Vp) (w : World) (e : Ending) (w' : World) : Prop :=
  ∃ k fs fv b, e = .returned (.tuple #[.agg #[.string (text k), fv], .bool b]) ∧ FldV fs fv w' ∧ ((vs = [] ∧ k = [] ∧ fs = [] ∧ b = false) ∨ ([(k, fs)] <+: vs ∧ b = true)) ∧ Below w.heap.size w w'
/-- Between two rounds: there was none. -/
def GetI (n₀ B B9 : Nat) (w : World) (xs : List Vx) (W : World) : Prop :=
  xs = [] ∧ W.heap[B + 1]? = some (.cells #[.string ⟨#[]⟩, .slice none 0 0] 80 (0, 0)) ∧ W.heap[B + 1 + 1]? = some (.cells #[.bool false] 4 (0, 0)) ∧ Below n₀ w W ∧ B9 ≤ W.heap.size
theorem GetI.own {n₀ B B9 B8 : Nat} {w : World} (h1 : n₀ ≤ B8) (h2 : n₀ ≤ B9) : OwnT B8 133 (GetI n₀ B B9 w) := by
  rintro xs X Y row ⟨hx, hb, hc, hw, hs⟩ hg hr
  exact ⟨hx, turn_keep hg hr hb (by decide), turn_keep hg hr hc (by decide), turn_below hg hr h1 (Nat.le_trans h2 hs) hw, Nat.le_trans hs hg.size⟩
def GetX (vs : List Vp) (n₀ B B9 : Nat) (w : World) (c : Code) (xs : List Vx) (W : World) : Prop :=
  c = .ret ∧ ∃ z : Vx, [z.pr] <+: vs ∧ W.heap[B + 1]? = some (.cells #[.string (text z.k), z.v] 80 (0, 0)) ∧ W.heap[B + 1 + 1]? = some (.cells #[.bool true] 4 (0, 0)) ∧ FldV z.fs z.v W ∧ Below n₀ w W ∧ B9 ≤ W.heap.size
theorem below_turn {n₀ B : Nat} {w W W' : World} {row : Option Nat} (hg : W.grownBy W' row) (hr : ∀ r, row = some r → B ≤ r ∧ ∃ o : Obj, W.heap[r]? = some o ∧ o.isCells = false) (h1 : n₀ ≤ B) (h2 : n₀ ≤ W.heap.size) (h : Below n₀ w W) : Below n₀ w W' :=
  h.grown hg h2 (fun k e => Nat.le_trans h1 (hr k e).1)
theorem GetX.own {vs : List Vp} {n₀ B B9 B8 : Nat} {w : World} (c : Code) (h1 : n₀ ≤ B8) (h2 : n₀ ≤ B9) : OwnFrom B8 (GetX vs n₀ B B9 w c) := by
  rintro xs X Y row ⟨hc, z, hz, hb, hd, hf, hw, hs⟩ hg hr
  have hr' := fun r e => (hr r e).2
  exact ⟨hc, z, hz, grownBy_keeps_cells hg hr' hb rfl |>.trans hb, grownBy_keeps_cells hg hr' hd rfl |>.trans hd, hf.turn hg hr', below_turn hg hr h1 (Nat.le_trans h2 hs) hw, Nat.le_trans hs hg.size⟩
def GetA (vs : List Vp) (tm : Nat → Vx → Array Value) (z : Vx) (a' : Act) (W : World) : Prop := ∃ g, W.heap[g]? = some (.cells #[.string (text z.k), z.v] 80 (0, 0)) ∧ [z.pr] <+: vs ∧ FldV z.fs z.v W ∧ a' = { tmps := tm g z, defers := [] }
theorem GetA.own {vs : List Vp} {tm : Nat → Vx → Array Value} {B8 : Nat} (z : Vx) (a' : Act) : OwnFrom B8 (fun (_ : Unit) W => GetA vs tm z a' W) := by
  rintro _ X Y row ⟨g, hb, hp, hf, e⟩ hg hr
  have hr' := fun r e => (hr r e).2
  exact ⟨g, grownBy_keeps_cells hg hr' hb rfl |>.trans hb, hp, hf.turn hg hr', e⟩

set_option maxRecDepth 100000 in
set_option maxHeartbeats 6400000 in
theorem mget_c {w : World} {x xl : Option Addr} {n1 cap m capl : Nat} {gs : List Grp} {L : List Rw} (hg : Grs w x n1 cap gs) (hs : ∀ g ∈ gs, g.1.length ≤ 9223372036854775807) (hl : RwsAt w xl m capl L) (hsh : RShort L) (key : List UInt8) :
    Calls Try.prog 38 #[.slice x n1 cap, .slice xl m capl, .string (text key)] w (GetVPost (vwsS gs (fun k => k == key) (L.map Rw.pr)) w) := by
  obtain ⟨VS, hVS⟩ : ∃ z, vwsS gs (fun k => k == key) (L.map Rw.pr) = z := ⟨_, rfl⟩
  have hT0 : text ([] : List UInt8) = ⟨#[]⟩ := rfl
  have hb1 := ((alloc_below w (.cells #[.string (text key)] 9)).alloc (by simp) (.cells #[.string ⟨#[]⟩, .slice none 0 0] 80)).alloc (by simp; omega) (.cells #[.bool false] 4)
  have e0 : (((w.alloc (.cells #[.string (text key)] 9)).alloc (.cells #[.string ⟨#[]⟩, .slice none 0 0] 80)).alloc (.cells #[.bool false] 4)).heap[w.heap.size]? = some (.cells #[.string (text key)] 9 (0, 0)) := (Below.heap_alloc _ _ _ (by simp; omega)).trans ((Below.heap_alloc _ _ _ (by simp)).trans (heap_alloc_new w _))
  have e1 := heap_below (heap_alloc_new (w.alloc (.cells #[.string (text key)] 9)) (.cells #[.string ⟨#[]⟩, .slice none 0 0] 80)) (alloc_below _ (.cells #[.bool false] 4))
  have e2 := heap_alloc_new ((w.alloc (.cells #[.string (text key)] 9)).alloc (.cells #[.string ⟨#[]⟩, .slice none 0 0] 80)) (.cells #[.bool false] 4)
  have hsz : (((w.alloc (.cells #[.string (text key)] 9)).alloc (.cells #[.string ⟨#[]⟩, .slice none 0 0] 80)).alloc (.cells #[.bool false] 4)).heap.size = w.heap.size + 1 + 1 + 1 := by simp
  simp only [World.size_alloc] at e1 e2
  rw [hVS]
  refine (callsIn_wide (n := 3)).1 ?_
  refine callsIn_of_wp_marks Try.func38 rfl trivial ?_ rfl
  simp only [Try.ntmps38, List.size_toArray, List.length_cons, List.length_nil, Nat.reduceAdd, Nat.reduceSub, Array.replicate_succ, Array.replicate_zero, List.push_toArray, List.append_toArray, List.nil_append, List.cons_append]
  gi_wp2_with fail
  refine ⟨trivial, (callsIn_wide.2 views_c).mono ?_⟩
  rintro e w1 ⟨rfl, rfl⟩
  obtain ⟨W1, hW1⟩ : ∃ X, ((w.alloc (.cells #[.string (text key)] 9)).alloc (.cells #[.string ⟨#[]⟩, .slice none 0 0] 80)).alloc (.cells #[.bool false] 4) = X := ⟨_, rfl⟩
  obtain ⟨B, hB⟩ : ∃ q, w.heap.size = q := ⟨_, rfl⟩
  have HBe := Lib.hid hB
  rw [hW1] at hb1 e0 e1 e2 hsz ⊢
  rw [hB] at e0 e1 e2 hsz ⊢
  clear hW1 hB
  rw [hsz]
  have f0 := heap_below (heap_below (heap_alloc_new W1 (.cells #[.slice x n1 cap] 60)) (alloc_below _ (.cells #[.slice xl m capl] 27))) (alloc_below _ (.cells #[.func (.func 68) #[] #[.pointer (some ⟨B, 0, none⟩)]] 39))
  have f1 := heap_below (heap_alloc_new (W1.alloc (.cells #[.slice x n1 cap] 60)) (.cells #[.slice xl m capl] 27)) (alloc_below _ (.cells #[.func (.func 68) #[] #[.pointer (some ⟨B, 0, none⟩)]] 39))
  have f2 := heap_alloc_new ((W1.alloc (.cells #[.slice x n1 cap] 60)).alloc (.cells #[.slice xl m capl] 27)) (.cells #[.func (.func 68) #[] #[.pointer (some ⟨B, 0, none⟩)]] 39)
  have hbW := ((alloc_below W1 (.cells #[.slice x n1 cap] 60)).alloc (by simp) (.cells #[.slice xl m capl] 27)).alloc (by simp; omega) (.cells #[.func (.func 68) #[] #[.pointer (some ⟨B, 0, none⟩)]] 39)
  have hsz0 : (((W1.alloc (.cells #[.slice x n1 cap] 60)).alloc (.cells #[.slice xl m capl] 27)).alloc (.cells #[.func (.func 68) #[] #[.pointer (some ⟨B, 0, none⟩)]] 39)).heap.size = B + 1 + 1 + 1 + 1 + 1 + 1 := by simp [hsz]
  simp only [World.size_alloc, hsz] at f0 f1 f2
  gi_wp2_with fail
  obtain ⟨W0, hW0⟩ : ∃ X, ((W1.alloc (.cells #[.slice x n1 cap] 60)).alloc (.cells #[.slice xl m capl] 27)).alloc (.cells #[.func (.func 68) #[] #[.pointer (some ⟨B, 0, none⟩)]] 39) = X := ⟨_, rfl⟩
  rw [hW0] at f0 f1 f2 hbW hsz0 ⊢
  clear hW0
  have g0 := heap_below e0 hbW
  have g1 := heap_below e1 hbW
  have g2 := heap_below e2 hbW
  have hw0 := hb1.trans (hbW.mono hb1.size)
  clear e0 e1 e2 hb1 hbW
  have hn9 : w.heap.size ≤ W0.heap.size := hw0.size
  refine wpIn_range_tellsW (F := Fence.wide) rfl (by omega) (gf := 91) (lb := #[.pointer (some ⟨B + 1 + 1 + 1, 0, none⟩), .pointer (some ⟨B + 1 + 1 + 1 + 1, 0, none⟩), .pointer (some ⟨B + 1 + 1 + 1 + 1 + 1, 0, none⟩)]) rfl trivial (enters_of Try.func91 (by kernel_rfl) rfl)
    (views_tells hg hs hl hsh hw0 2 (B + 1 + 1 + 1) (B + 1 + 1 + 1 + 1) (B + 1 + 1 + 1 + 1 + 1) B (fun j => j = B ∨ j = B + 1 + 1 + 1 ∨ j = B + 1 + 1 + 1 + 1 ∨ j = B + 1 + 1 + 1 + 1 + 1) (fun k => k == key) f0 f1 f2 (.inr (.inl rfl)) (.inr (.inr (.inl rfl))) (.inr (.inr (.inr rfl)))
      (fun k W hk => get1_c k key B W (hk.box B _ (.inl rfl) g0)))
    KP.trans (fun W l o o' hl h ho _ => KP.putObj W l o o' (by omega) (by rintro k (rfl | rfl | rfl | rfl) <;> omega) h)
    (fun xs X Y row hs hg hr => hs) (fun xs X Y row hs hg hr => hs) (fun _ => rfl)
    (GetI w.heap.size B W0.heap.size w) (GetX VS w.heap.size B W0.heap.size w) (GetI.own hn9 hn9) (fun c => GetX.own c hn9 hn9) ⟨rfl, g1, g2, hw0, Nat.le_refl _⟩
    (GetA VS (fun g z => #[.slice x n1 cap, .slice xl m capl, .string (text key), undef,undef, .pointer (some ⟨B, 0, none⟩), .pointer (some ⟨B + 1, 0, none⟩), .pointer (some ⟨B + 1 + 1, 0, none⟩), .pointer (some ⟨g, 0, none⟩), .slice x n1 cap, .slice xl m capl, .func (.func 68) #[] #[.pointer (some ⟨B, 0, none⟩)], .func (.func 91) #[] #[.pointer (some ⟨B + 1 + 1 + 1, 0, none⟩), .pointer (some ⟨B + 1 + 1 + 1 + 1, 0, none⟩), .pointer (some ⟨B + 1 + 1 + 1 + 1 + 1, 0, none⟩)], .agg #[.string (text z.k), z.v], undef,undef])) (fun z a' => GetA.own z a') ?assign ?body ?done ?stop
  case assign =>
    rintro q pre z W K ⟨rfl, hv, hd, hw, hs2⟩ ⟨hp, hf⟩ hK
    rw [hVS] at hp
    dsimp only [vxenc]
    obtain ⟨zk, zf, zv⟩ := z
    obtain ⟨az, cz, ez, -⟩ := id hf
    simp only at ez hf
    subst ez
    have hal := alloc_below W (.cells #[.string (text zk), .slice az zf.length cz] 80)
    have HK := Lib.hid @hK
    have HKP := Lib.hid (show KP w.heap.size (fun j => j = B ∨ j = B + 1 + 1 + 1 ∨ j = B + 1 + 1 + 1 + 1 ∨ j = B + 1 + 1 + 1 + 1 + 1) W (W.alloc (.cells #[.string (text zk), .slice az zf.length cz] 80)) from KP.of_below (by have := hw.size; omega) hal)
    have HI := Lib.hid ((GetI.own hn9 hn9).from.alloc (.cells #[.string (text zk), .slice az zf.length cz] 80) (show GetI w.heap.size B W0.heap.size w [] W from ⟨rfl, hv, hd, hw, hs2⟩))
    have HF := Lib.hid (show FldV zf (.slice az zf.length cz) (W.alloc (.cells #[.string (text zk), .slice az zf.length cz] 80)) from hf.kept hal)
    have HP := Lib.hid hp
    clear hK hv hd hw hs2 hp hf hal
    gi_wp2
    exact HK.out _ _ ((KeepsOthers.alloc _ _).from _) HKP.out HI.out ⟨W.heap.size, heap_alloc_new W _, HP.out, HF.out, rfl⟩
  case body =>
    rintro q pre z a' W ⟨rfl, hv, hd, hw, hs2⟩ ⟨g, hgz, hp, hf, rfl⟩
    obtain ⟨zk, zf, zv⟩ := z
    have hn1 := hf.apart hv (fun i x h => by
      match i, h with
      | 0, h => simp at h
      | 1, h => simp at h
      | j + 2, h => simp at h)
    have hn2 := hf.apart hd (fun i x h => by
      match i, h with
      | 0, h => simp at h
      | j + 1, h => simp at h)
    obtain ⟨az, cz, ez, hfl, -⟩ := id hf
    simp only at ez
    subst ez
    have c0 : W.cell? ⟨g, 0, none⟩ = some (.string (text zk)) := by rw [cell_of_row _ g 0 _ _ (0, 0) hgz]; rfl
    have c1 : W.cell? ⟨g, 1, none⟩ = some (.slice az zf.length cz) := by rw [cell_of_row _ g 1 _ _ (0, 0) hgz]; rfl
    have v0 : W.cell? ⟨B + 1, 0, none⟩ = some (.string ⟨#[]⟩) := by rw [cell_of_row _ (B + 1) 0 _ _ (0, 0) hv]; rfl
    have v1 : W.cell? ⟨B + 1, 1, none⟩ = some (.slice none 0 0) := by rw [cell_of_row _ (B + 1) 1 _ _ (0, 0) hv]; rfl
    have vf : ∀ i, W.frozen? ⟨B + 1, i, none⟩ = false := fun i => frozen_of_row _ (B + 1) i _ _ hv
    have d0 : W.cell? ⟨B + 1 + 1, 0, none⟩ = some (.bool false) := by rw [cell_of_row _ (B + 1 + 1) 0 _ _ (0, 0) hd]; rfl
    have df : ∀ i, W.frozen? ⟨B + 1 + 1, i, none⟩ = false := fun i => frozen_of_row _ (B + 1 + 1) i _ _ hd
    have HR := Lib.hid (show RoundPost W0.heap.size (KP w.heap.size (fun j => j = B ∨ j = B + 1 + 1 + 1 ∨ j = B + 1 + 1 + 1 + 1 ∨ j = B + 1 + 1 + 1 + 1 + 1)) (fun _ => True) (GetI w.heap.size B W0.heap.size w) (GetX VS w.heap.size B W0.heap.size w) [] ⟨zk, zf, .slice az zf.length cz⟩ W .ret { tmps := #[], defers := [] } (((W.setCell ⟨B + 1, 0, none⟩ (.string (text zk))).setCell ⟨B + 1, 1, none⟩ (.slice az zf.length cz)).setCell ⟨B + 1 + 1, 0, none⟩ (.bool true)) from by
      have hb1 : Below w.heap.size W (((W.setCell ⟨B + 1, 0, none⟩ (.string (text zk))).setCell ⟨B + 1, 1, none⟩ (.slice az zf.length cz)).setCell ⟨B + 1 + 1, 0, none⟩ (.bool true)) := (((Below.refl _ W).setCell (p := ⟨B + 1, 0, none⟩) (by have := HBe.out; simp; omega) _).setCell (p := ⟨B + 1, 1, none⟩) (by have := HBe.out; simp; omega) _).setCell (p := ⟨B + 1 + 1, 0, none⟩) (by have := HBe.out; simp; omega) _
      have hoth : ∀ j, j ≠ B + 1 → j ≠ B + 1 + 1 → (((W.setCell ⟨B + 1, 0, none⟩ (.string (text zk))).setCell ⟨B + 1, 1, none⟩ (.slice az zf.length cz)).setCell ⟨B + 1 + 1, 0, none⟩ (.bool true)).heap[j]? = W.heap[j]? := fun j h1 h2 => by
        rw [heap_setCell_other _ _ _ _ (by exact h2), heap_setCell_other _ _ _ _ (by exact h1), heap_setCell_other _ _ _ _ (by exact h1)]
      refine ⟨(((KeepsOthers.setCell _ _ _).trans (KeepsOthers.setCell _ _ _)).trans (KeepsOthers.setCell _ _ _)).from _, ⟨hb1, fun j o hj ho => ?_⟩, rfl, ⟨zk, zf, .slice az zf.length cz⟩, hp, ?_,?_,?_, hw.trans (hb1.mono (Nat.le_refl _)), ?_⟩
      · rw [hoth j (by rcases hj with rfl | rfl | rfl | rfl <;> omega) (by rcases hj with rfl | rfl | rfl | rfl <;> omega)]; exact ho
      · rw [heap_setCell_other _ _ _ _ (by simp)]
        exact view_set hv (text zk) (.slice az zf.length cz)
      · have hd3 : ((W.setCell ⟨B + 1, 0, none⟩ (.string (text zk))).setCell ⟨B + 1, 1, none⟩ (.slice az zf.length cz)).heap[B + 1 + 1]? = some (.cells #[.bool false] 4 (0, 0)) := by
          rw [heap_setCell_other _ _ _ _ (by simp), heap_setCell_other _ _ _ _ (by simp)]
          exact hd
        exact (heap_setCell_same _ (B + 1 + 1) 0 _ _ _ hd3).trans rfl
      · exact ((hf.cell (q := B + 1) 0 _ hn1).cell (q := B + 1) 1 _ hn1).cell (q := B + 1 + 1) 0 _ hn2
      · simp only [World.size_setCell]; exact hs2)
    clear hv hd hw hs2 hgz hp hf hn1 hn2 hfl
    gi_wp2
    exact HR.out
  case done =>
    rintro D xs W hD hxs ⟨rfl, hv, hd, hw, hs2⟩ hK
    rw [hVS] at hxs
    have v0 : W.cell? ⟨B + 1, 0, none⟩ = some (.string ⟨#[]⟩) := by rw [cell_of_row _ (B + 1) 0 _ _ (0, 0) hv]; rfl
    have v1 : W.cell? ⟨B + 1, 1, none⟩ = some (.slice none 0 0) := by rw [cell_of_row _ (B + 1) 1 _ _ (0, 0) hv]; rfl
    have vf : ∀ i, W.frozen? ⟨B + 1, i, none⟩ = false := fun i => frozen_of_row _ (B + 1) i _ _ hv
    have d0 : W.cell? ⟨B + 1 + 1, 0, none⟩ = some (.bool false) := by rw [cell_of_row _ (B + 1 + 1) 0 _ _ (0, 0) hd]; rfl
    have df : ∀ i, W.frozen? ⟨B + 1 + 1, i, none⟩ = false := fun i => frozen_of_row _ (B + 1 + 1) i _ _ hd
    have hlD : B + 1 + 1 < D := by omega
    obtain ⟨X, hX⟩ : ∃ X, ((W.setCell ⟨B + 1, 0, none⟩ (.string ⟨#[]⟩)).setCell ⟨B + 1, 1, none⟩ (.slice none 0 0)).setCell ⟨B + 1 + 1, 0, none⟩ (.bool false) = X := ⟨_, rfl⟩
    have hx1 : X.heap[B + 1]? = some (.cells #[.string ⟨#[]⟩, .slice none 0 0] 80 (0, 0)) := by
      rw [← hX, heap_setCell_other _ _ _ _ (by simp)]
      exact view_set hv ⟨#[]⟩ (.slice none 0 0)
    have hd3 : ((W.setCell ⟨B + 1, 0, none⟩ (.string ⟨#[]⟩)).setCell ⟨B + 1, 1, none⟩ (.slice none 0 0)).heap[B + 1 + 1]? = some (.cells #[.bool false] 4 (0, 0)) := by
      rw [heap_setCell_other _ _ _ _ (by simp), heap_setCell_other _ _ _ _ (by simp)]
      exact hd
    have hx2 : X.heap[B + 1 + 1]? = some (.cells #[.bool false] 4 (0, 0)) := by rw [← hX]; exact (heap_setCell_same _ (B + 1 + 1) 0 _ _ _ hd3).trans rfl
    have hxK : X.heap[D]? = some (.deferred (some [])) := by
      rw [← hX, heap_setCell_other _ _ _ _ (by simp; omega), heap_setCell_other _ _ _ _ (by simp; omega), heap_setCell_other _ _ _ _ (by simp; omega)]
      exact hK
    have hxw : Below w.heap.size w X := by
      rw [← hX]
      exact ((hw.setCell (p := ⟨B + 1, 0, none⟩) (by have := HBe.out; simp; omega) _).setCell (p := ⟨B + 1, 1, none⟩) (by have := HBe.out; simp; omega) _).setCell (p := ⟨B + 1 + 1, 0, none⟩) (by have := HBe.out; simp; omega) _
    have HX := Lib.hid hX
    have HX1 := Lib.hid hx1
    have HX2 := Lib.hid hx2
    have HXK := Lib.hid hxK
    have HXW := Lib.hid hxw
    have HXS := Lib.hid hxs
    clear hX hx1 hx2 hxK hxw hd3 hK hw hs2 hv hd hxs
    gi_wp2
    rw [HX.out]
    refine ⟨by simp, .inl ⟨_, _, rfl, run_takeDeferred HXK.out, ?_⟩⟩
    have hd2 : (X.putObj D (.deferred none)).cell? ⟨B + 1 + 1, 0, none⟩ = some (.bool false) := by rw [putObj_cell ⟨B + 1 + 1, 0, none⟩ (by simp; omega), cell_of_row _ (B + 1 + 1) 0 _ _ (0, 0) HX2.out]; rfl
    refine ⟨_, res_cell_cell rfl _ _ (B + 1) (B + 1 + 1) 80 _ (0, 0) _ _ _ rfl rfl ((World.putObj_heap_other (by omega)).trans HX1.out) hd2 Try.underlying80 rfl (by kernel_rfl) Try.underlying4 rfl, [], [], .slice none 0 0, false, rfl, ⟨none, 0, rfl, ⟨rfl, Nat.le_refl _, by omega, .inl rfl⟩, fun h => absurd h (by decide)⟩, .inl ⟨HXS.out.symm, rfl, rfl, rfl⟩, ?_⟩
    exact HXW.out.trans (belowK_b (w := w) (Nat.le_refl _) X D _ _ (by have := HBe.out; omega) HXK.out rfl rfl)
  case stop =>
    rintro D c pre W hD - ⟨rfl, z, hp, hv, hd, hf, hw, hs2⟩ hK
    have hlD : B + 1 + 1 < D := by omega
    gi_wp2
    refine ⟨by simp, .inl ⟨_, _, rfl, run_takeDeferred hK, ?_⟩⟩
    have hd2 : (W.putObj D (.deferred none)).cell? ⟨B + 1 + 1, 0, none⟩ = some (.bool true) := by rw [putObj_cell ⟨B + 1 + 1, 0, none⟩ (by simp; omega), cell_of_row _ (B + 1 + 1) 0 _ _ (0, 0) hd]; rfl
    refine ⟨_, res_cell_cell rfl _ _ (B + 1) (B + 1 + 1) 80 _ (0, 0) _ _ _ rfl rfl ((World.putObj_heap_other (by omega)).trans hv) hd2 Try.underlying80 rfl (by kernel_rfl) Try.underlying4 rfl, z.k, z.fs, z.v, true, rfl, ?_, .inr ⟨hp, rfl⟩, ?_⟩
    · exact hf.turn (row := some D) (grownBy_putObj' W D (.deferred none)) (fun r e => by cases e; exact ⟨_, hK, rfl⟩)
    · exact hw.trans (belowK_b (w := w) (Nat.le_refl _) W D _ _ (by have := HBe.out; omega) hK rfl rfl)
end Go.Proofs.Ytidbjmkfmfojdaa
end

section
namespace Go.Proofs.Ytidbjmkfmfojdaa
open Go.RowKit Go Go.Sort
set_option linter.unusedVariables false
set_option maxRecDepth 20000

def ex1 : Chg := ⟨1, 1, 1, 1, 1, 0, [⟨[107], 0, false, [120]⟩]⟩
def ex2 : Chg := ⟨2, 1, 1, 2, 0, 1, [⟨[107], 0, true, []⟩]⟩
def ex3 : Chg := ⟨1, 2, 2, 1, 2, 0, [⟨[107], 0, false, [121]⟩]⟩
theorem ex_e1 : ex1.err exG = 0 := by decide +kernel
theorem ex_e2 : ex2.err exG = 0 := by decide +kernel
theorem ex_e3 : ex3.err exG = 0 := by decide +kernel
def exC (c : Chg) : List Cl := ((c.rows exG).getD 0 ([], [])).2
theorem ex_r1 : ex1.rows exG = [([107], exC ex1)] := by kernel_rfl
theorem ex_r2 : ex2.rows exG = [([107], exC ex2)] := by kernel_rfl
theorem ex_r3 : ex3.rows exG = [([107], exC ex3)] := by kernel_rfl
theorem ex_pg : pgoodS exG = 0 := by decide +kernel
theorem mrg_one (k : List UInt8) (x y : List Cl) : mrg Op.bytesLess opC [(k, x)] [(k, y)] = [(k, opC x y)] := by
  have h : Op.bytesLess k k = false := strictT.1 k
  rw [mrg_eq opC h h, mrg_nil]
theorem ex_a : stS exG [ex1, ex2] = ([([107], opC (exC ex1) (exC ex2))], 0) := by
  rw [st_ok ex_pg (by intro c hc; rcases List.mem_cons.1 hc with rfl | hc; exact ex_e1; rw [List.mem_singleton.1 hc]; exact ex_e2)]
  simp only [List.map_cons, List.map_nil, ex_r1, ex_r2]
  rw [made_two opC (by simp)]
  show (mrg Op.bytesLess opC (madeK Op.bytesLess opC [_]) (madeK Op.bytesLess opC [_]), _) = _
  rw [made_one, made_one, mrg_one]
theorem ex_b : stS exG [ex3, ex1, ex2] = ([([107], opC (exC ex3) (opC (exC ex1) (exC ex2)))], 0) := by
  rw [st_ok ex_pg (by intro c hc; rcases List.mem_cons.1 hc with rfl | hc; exact ex_e3; rcases List.mem_cons.1 hc with rfl | hc; exact ex_e1; rw [List.mem_singleton.1 hc]; exact ex_e2)]
  simp only [List.map_cons, List.map_nil, ex_r1, ex_r2, ex_r3]
  rw [made_two opC (by simp)]
  show (mrg Op.bytesLess opC (madeK Op.bytesLess opC [_]) (madeK Op.bytesLess opC [_, _]), _) = _
  rw [made_one, made_two opC (by simp)]
  show (mrg Op.bytesLess opC _ (mrg Op.bytesLess opC (madeK Op.bytesLess opC [_]) (madeK Op.bytesLess opC [_])), _) = _
  rw [made_one, made_one, mrg_one, mrg_one]
theorem ex_va : vwsS exG (fun k => k == [107]) [([107], opC (exC ex1) (exC ex2))] = [] := by decide +kernel
theorem ex_vb : vwsS exG (fun k => k == [107]) [([107], opC (exC ex3) (opC (exC ex1) (exC ex2)))] = [([107], [(0, [121])])] := by decide +kernel
end Go.Proofs.Ytidbjmkfmfojdaa
end

section
namespace Go.Proofs.Ytidbjmkfmfojdaa
open Go.RowKit Go Go.Sort
set_option linter.unusedVariables false
set_option maxRecDepth 20000

theorem Ls.block {α : Type} {sz : Nat} {arr : α → Array Value} {z : α} (hs : ∀ c, (arr c).size = sz) {W : World} {q : Nat} {cs : Array Value} {t : TypeId} {fr : Nat × Nat} {L : List α} (h : W.heap[q]? = some (.cells cs t fr)) (hc : cs.toList = lCells arr L) (hm : L.length ≤ 9223372036854775807) : Ls sz arr z W (some ⟨q, 0, none⟩) L.length L.length L := by
  refine ⟨rfl, Nat.le_refl _, hm, .inr ⟨q, 0, rfl, fun i hi j v hj => ?_⟩⟩
  have hjs : j < sz := by have := (Array.getElem?_eq_some_iff.1 hj).1; rwa [hs] at this
  have c1 := lCells_get (z := z) hs L i j hi hjs
  rw [← hc, hj] at c1
  rw [Nat.zero_add, cell_of_row W q _ cs t fr h, ← c1]
  simp
theorem wrs_one {W : World} {q : Nat} {k : List UInt8} {i : Int} {g : Bool} {t : List UInt8} {fr : Nat × Nat} (h : W.heap[q]? = some (.cells #[.string (text k), .int .i64 i, .bool g, .string (text t)] 94 fr)) : Wrs W (some ⟨q, 0, none⟩) 1 1 [⟨k, i, g, t⟩] :=
  Ls.block (L := [(⟨k, i, g, t⟩ : Wr)]) wr_size h rfl (by simp)
theorem ex_short1 (k t : List UInt8) (i : Int) (g : Bool) (hk : k.length ≤ 9223372036854775807) (ht : t.length ≤ 9223372036854775807) : WShort [⟨k, i, g, t⟩] := by
  intro c hc
  rw [List.mem_singleton.1 hc]
  exact ⟨hk, ht⟩
theorem ch_two {W : World} {q q1 q2 : Nat} {fr : Nat × Nat} (h1 : W.heap[q1]? = some (.cells #[.string ⟨#[107]⟩, .int .i64 0, .bool false, .string ⟨#[120]⟩] 94 (0, 0))) (h2 : W.heap[q2]? = some (.cells #[.string ⟨#[107]⟩, .int .i64 0, .bool true, .string ⟨#[]⟩] 94 (0, 0)))
    (h : W.heap[q]? = some (.cells #[.int .i64 1, .int .i64 1, .int .i64 1, .int .i64 1, .int .i64 1, .int .i64 0, .slice (some ⟨q1, 0, none⟩) 1 1, .int .i64 2, .int .i64 1, .int .i64 1, .int .i64 2, .int .i64 0, .int .i64 1, .slice (some ⟨q2, 0, none⟩) 1 1] 91 fr)) : ChsAt W (some ⟨q, 0, none⟩) 2 2 [⟨1, 1, 1, 1, 1, 0, .slice (some ⟨q1, 0, none⟩) 1 1, [⟨[107], 0, false, [120]⟩]⟩, ⟨2, 1, 1, 2, 0, 1, .slice (some ⟨q2, 0, none⟩) 1 1, [⟨[107], 0, true, []⟩]⟩] := by
  refine ⟨Ls.block (L := [(⟨1, 1, 1, 1, 1, 0, .slice (some ⟨q1, 0, none⟩) 1 1, [⟨[107], 0, false, [120]⟩]⟩ : Cg), ⟨2, 1, 1, 2, 0, 1, .slice (some ⟨q2, 0, none⟩) 1 1, [⟨[107], 0, true, []⟩]⟩]) cg_size h rfl (by simp), fun j hj => ?_⟩
  rcases (by omega : j = 0 ∨ j = 1) with rfl | rfl
  · exact ⟨_, _, rfl, wrs_one (k := [107]) (t := [120]) h1, ex_short1 _ _ _ _ (by decide) (by decide)⟩
  · exact ⟨_, _, rfl, wrs_one (k := [107]) (t := []) h2, ex_short1 _ _ _ _ (by decide) (by decide)⟩
theorem ch_three {W : World} {q q1 q2 q3 : Nat} {fr : Nat × Nat} (h1 : W.heap[q1]? = some (.cells #[.string ⟨#[107]⟩, .int .i64 0, .bool false, .string ⟨#[120]⟩] 94 (0, 0))) (h2 : W.heap[q2]? = some (.cells #[.string ⟨#[107]⟩, .int .i64 0, .bool true, .string ⟨#[]⟩] 94 (0, 0)))
    (h3 : W.heap[q3]? = some (.cells #[.string ⟨#[107]⟩, .int .i64 0, .bool false, .string ⟨#[121]⟩] 94 (0, 0)))
    (h : W.heap[q]? = some (.cells #[.int .i64 1, .int .i64 2, .int .i64 2, .int .i64 1, .int .i64 2, .int .i64 0, .slice (some ⟨q3, 0, none⟩) 1 1, .int .i64 1, .int .i64 1, .int .i64 1, .int .i64 1, .int .i64 1, .int .i64 0, .slice (some ⟨q1, 0, none⟩) 1 1, .int .i64 2, .int .i64 1, .int .i64 1, .int .i64 2, .int .i64 0, .int .i64 1, .slice (some ⟨q2, 0, none⟩) 1 1] 91 fr)) : ChsAt W (some ⟨q, 0, none⟩) 3 3 [⟨1, 2, 2, 1, 2, 0, .slice (some ⟨q3, 0, none⟩) 1 1, [⟨[107], 0, false, [121]⟩]⟩, ⟨1, 1, 1, 1, 1, 0, .slice (some ⟨q1, 0, none⟩) 1 1, [⟨[107], 0, false, [120]⟩]⟩, ⟨2, 1, 1, 2, 0, 1, .slice (some ⟨q2, 0, none⟩) 1 1, [⟨[107], 0, true, []⟩]⟩] := by
  refine ⟨Ls.block (L := [(⟨1, 2, 2, 1, 2, 0, .slice (some ⟨q3, 0, none⟩) 1 1, [⟨[107], 0, false, [121]⟩]⟩ : Cg), ⟨1, 1, 1, 1, 1, 0, .slice (some ⟨q1, 0, none⟩) 1 1, [⟨[107], 0, false, [120]⟩]⟩, ⟨2, 1, 1, 2, 0, 1, .slice (some ⟨q2, 0, none⟩) 1 1, [⟨[107], 0, true, []⟩]⟩]) cg_size h rfl (by simp), fun j hj => ?_⟩
  rcases (by omega : j = 0 ∨ j = 1 ∨ j = 2) with rfl | rfl | rfl
  · exact ⟨_, _, rfl, wrs_one (k := [107]) (t := [121]) h3, ex_short1 _ _ _ _ (by decide) (by decide)⟩
  · exact ⟨_, _, rfl, wrs_one (k := [107]) (t := [120]) h1, ex_short1 _ _ _ _ (by decide) (by decide)⟩
  · exact ⟨_, _, rfl, wrs_one (k := [107]) (t := []) h2, ex_short1 _ _ _ _ (by decide) (by decide)⟩
theorem chg_cells {W : World} {q : Nat} {site seq n s a b : Int} {u : Value} (h : W.heap[q]? = some (.cells #[.int .i64 site, .int .i64 seq, .int .i64 n, .int .i64 s, .int .i64 a, .int .i64 b, u] 91 (0, 0))) : W.cell? ⟨q, 0, none⟩ = some (.int .i64 site) ∧ W.cell? ⟨q, 1, none⟩ = some (.int .i64 seq) ∧ W.cell? ⟨q, 2, none⟩ = some (.int .i64 n) ∧ W.cell? ⟨q, 3, none⟩ = some (.int .i64 s) ∧ W.cell? ⟨q, 4, none⟩ = some (.int .i64 a) ∧ W.cell? ⟨q, 5, none⟩ = some (.int .i64 b) ∧ W.cell? ⟨q, 6, none⟩ = some u := by
  refine ⟨?_,?_,?_,?_,?_,?_,?_⟩ <;> (rw [cell_of_row _ q _ _ _ (0, 0) h]; rfl)
def BlkV (n : Nat) (cs : Array Value) (v : Value) (W : World) : Prop := ∃ q, v = .slice (some ⟨q, 0, none⟩) n n ∧ W.heap[q]? = some (.cells cs 91 (0, 0))
theorem BlkV.kept {n : Nat} {cs : Array Value} {v : Value} {X Y : World} (h : BlkV n cs v X) (hb : Below X.heap.size X Y) : BlkV n cs v Y := by
  obtain ⟨q, e, hc⟩ := h; exact ⟨q, e, heap_below hc hb⟩
/-- Rows as a call told them. -/
def RsV (R : List Rp) (v : Value) (W : World) : Prop := ∃ a c NN, v = .slice a NN.length c ∧ RwsAt W a NN.length c NN ∧ NN.map Rw.pr = R
theorem RsV.kept {R : List Rp} {v : Value} {X Y : World} (h : RsV R v X) (hb : Below X.heap.size X Y) : RsV R v Y := by
  obtain ⟨a, c, NN, e, hr, hp⟩ := h; exact ⟨a, c, NN, e, hr.below hb, hp⟩
def StV (R : List Rp) (k : Int) (v : Value) (W : World) : Prop := ∃ u, v = .tuple #[u, .int .i64 k] ∧ RsV R u W
theorem StV.kept {R : List Rp} {k : Int} {v : Value} {X Y : World} (h : StV R k v X) (hb : Below X.heap.size X Y) : StV R k v Y := by
  obtain ⟨u, e, hr⟩ := h; exact ⟨u, e, hr.kept hb⟩
theorem StPost.st {r : List Rp × Int} {n1 : Nat} {w w' : World} {e : Ending} (h : StPost r n1 w e w') : ∃ v, e = .returned v ∧ StV r.1 r.2 v w' ∧ Below w.heap.size w w' := by
  obtain ⟨v, NN, rfl, hp, ho, hb⟩ := h
  obtain ⟨a, c, e, hr⟩ := ho.at
  exact ⟨_, rfl, ⟨v, rfl, a, c, NN, e, hr, hp⟩, hb⟩
theorem short_st {gs : List Grp} {NN : List Rw} {R : List Rp} (h : IsSt gs R) (hp : NN.map Rw.pr = R) : RShort NN := by
  intro r hr
  have hm : r.pr ∈ R := by rw [← hp]; exact List.mem_map.2 ⟨r, hr, rfl⟩
  obtain ⟨-, h2, -,-, h5⟩ := rgood_short (h.good _ hm)
  exact ⟨Nat.le_trans (show r.k.length ≤ 32 from h2) (by decide), fun c hc => Nat.le_trans (h5 c hc) (by decide)⟩
theorem lget_a {W : World} {q : Nat} {a : Option Addr} {c : Nat} {NN : List Rw} (hg : Grs W (some ⟨q, 0, none⟩) 2 2 exG) (hr : RwsAt W a NN.length c NN) (hp : NN.map Rw.pr = (stS exG [ex1, ex2]).1) :
    Calls Try.prog 38 #[.slice (some ⟨q, 0, none⟩) 2 2, .slice a NN.length c, .string ⟨#[107]⟩] W (fun e w' => ∃ kt af nf cf, e = .returned (.tuple #[.agg #[.string kt, .slice af nf cf], .bool false]) ∧ Below W.heap.size W w') := by
  have hs := short_st (st_st (gs := exG) (cs := [ex1, ex2]) (by rw [ex_a])) hp
  refine (mget_c hg (by decide) hr hs [107]).mono ?_
  rintro e w' ⟨k, fs, fv, b, rfl, ⟨af, cf, rfl, -⟩, hv, hb⟩
  rw [hp, ex_a, ex_va] at hv
  rcases hv with ⟨-,-,-, rfl⟩ | ⟨h, -⟩
  · exact ⟨_, _, _, _, rfl, hb⟩
  · have := h.length_le; simp at this
theorem lget_b {W : World} {q : Nat} {a : Option Addr} {c : Nat} {NN : List Rw} (hg : Grs W (some ⟨q, 0, none⟩) 2 2 exG) (hr : RwsAt W a NN.length c NN) (hp : NN.map Rw.pr = (stS exG [ex3, ex1, ex2]).1) :
    Calls Try.prog 38 #[.slice (some ⟨q, 0, none⟩) 2 2, .slice a NN.length c, .string ⟨#[107]⟩] W (fun e w' => ∃ kt bf of cf, e = .returned (.tuple #[.agg #[.string kt, .slice (some ⟨bf, of, none⟩) 1 cf], .bool true]) ∧ 1 ≤ cf ∧ w'.cell? ⟨bf, of + 1, none⟩ = some (.string ⟨#[121]⟩) ∧ Below W.heap.size W w') := by
  have hs := short_st (st_st (gs := exG) (cs := [ex3, ex1, ex2]) (by rw [ex_b])) hp
  refine (mget_c hg (by decide) hr hs [107]).mono ?_
  rintro e w' ⟨k, fs, fv, b, rfl, ⟨af, cf, rfl, hf, -⟩, hv, hb⟩
  rw [hp, ex_b, ex_vb] at hv
  rcases hv with ⟨h, -⟩ | ⟨h, rfl⟩
  · cases h
  · have e1 := h.eq_of_length (by simp)
    injection e1 with e1 e2
    injection e1 with e1 e3
    subst e1 e3
    obtain ⟨bf, of, rfl, hat⟩ := hf.at (k := 0) (by simp)
    exact ⟨_, bf, of, _, rfl, hf.le, (hat w' (Below.refl _ _)).2, hb⟩
end Go.Proofs.Ytidbjmkfmfojdaa
end

section
namespace Go.Proofs.Ytidbjmkfmfojdaa
open Go.RowKit Go Go.Sort
set_option linter.unusedVariables false
set_option maxRecDepth 20000

set_option maxRecDepth 100000 in
set_option maxHeartbeats 6400000 in
theorem mlives_c (w : World) : Calls Try.prog 30 #[] w (Tells (.bool true) w) := by
  go_enter Try.func30, Try.ntmps30
  go_upto_region 2 with (go_at_call 55; (with_reducible refine (one_c _ _ _ _ _ _ _ _ _ _).mono ?_); rintro e9 w1 ⟨q1, rfl, hq, hb⟩)
  have hd := alloc_below w1 (.cells #[.int .i64 1, .int .i64 1, .int .i64 1, .int .i64 1, .int .i64 1, .int .i64 0, .slice (some ⟨q1, 0, none⟩) 1 1] 91)
  have hn := heap_alloc_new w1 (.cells #[.int .i64 1, .int .i64 1, .int .i64 1, .int .i64 1, .int .i64 1, .int .i64 0, .slice (some ⟨q1, 0, none⟩) 1 1] 91)
  obtain ⟨x1, hx⟩ : ∃ z, w1.heap.size = z := ⟨_, rfl⟩
  rw [hx] at hn
  try rw [hx]
  have hq := heap_below hq hd
  have hb := hb.trans (hd.mono hb.size)
  clear hd hx
  generalize w1.alloc (.cells #[.int .i64 1, .int .i64 1, .int .i64 1, .int .i64 1, .int .i64 1, .int .i64 0, .slice (some ⟨q1, 0, none⟩) 1 1] 91) = V1 at *
  have N1 := Lib.hid hn
  have M1 := Lib.hid hq
  have B1 := Lib.hid hb
  clear hn hq hb
  go_upto_region 3 with (go_at_call 55; (with_reducible refine (one_c _ _ _ _ _ _ _ _ _ _).mono ?_); rintro e9 w2 ⟨q2, rfl, hq, hb⟩)
  have hd := alloc_below w2 (.cells #[.int .i64 2, .int .i64 1, .int .i64 1, .int .i64 2, .int .i64 0, .int .i64 1, .slice (some ⟨q2, 0, none⟩) 1 1] 91)
  have hn := heap_alloc_new w2 (.cells #[.int .i64 2, .int .i64 1, .int .i64 1, .int .i64 2, .int .i64 0, .int .i64 1, .slice (some ⟨q2, 0, none⟩) 1 1] 91)
  obtain ⟨x2, hx⟩ : ∃ z, w2.heap.size = z := ⟨_, rfl⟩
  rw [hx] at hn
  try rw [hx]
  have hq := heap_below hq hd
  have hb := hb.trans (hd.mono hb.size)
  clear hd hx
  generalize w2.alloc (.cells #[.int .i64 2, .int .i64 1, .int .i64 1, .int .i64 2, .int .i64 0, .int .i64 1, .slice (some ⟨q2, 0, none⟩) 1 1] 91) = V2 at *
  have N2 := Lib.hid (And.intro hn (heap_below N1.out hb))
  have M2 := Lib.hid (And.intro hq (heap_below M1.out hb))
  have B2 := Lib.hid (B1.out.trans (hb.mono B1.out.size))
  clear hn hq hb N1 M1 B1
  go_upto_region 4 with (go_at_call 55; (with_reducible refine (one_c _ _ _ _ _ _ _ _ _ _).mono ?_); rintro e9 w3 ⟨q3, rfl, hq, hb⟩)
  have hd := alloc_below w3 (.cells #[.int .i64 1, .int .i64 2, .int .i64 2, .int .i64 1, .int .i64 2, .int .i64 0, .slice (some ⟨q3, 0, none⟩) 1 1] 91)
  have hn := heap_alloc_new w3 (.cells #[.int .i64 1, .int .i64 2, .int .i64 2, .int .i64 1, .int .i64 2, .int .i64 0, .slice (some ⟨q3, 0, none⟩) 1 1] 91)
  obtain ⟨x3, hx⟩ : ∃ z, w3.heap.size = z := ⟨_, rfl⟩
  rw [hx] at hn
  try rw [hx]
  have hq := heap_below hq hd
  have hb := hb.trans (hd.mono hb.size)
  clear hd hx
  generalize w3.alloc (.cells #[.int .i64 1, .int .i64 2, .int .i64 2, .int .i64 1, .int .i64 2, .int .i64 0, .slice (some ⟨q3, 0, none⟩) 1 1] 91) = V3 at *
  have H1 := Lib.hid (heap_below M2.out.2 hb)
  have H2 := Lib.hid (heap_below M2.out.1 hb)
  have H3 := Lib.hid hq
  have hn1 := heap_below N2.out.2 hb
  have hn2 := heap_below N2.out.1 hb
  have HC1 := Lib.hid (fun W (h : Below V3.heap.size V3 W) => chg_cells (heap_below hn1 h))
  have HC2 := Lib.hid (fun W (h : Below V3.heap.size V3 W) => chg_cells (heap_below hn2 h))
  have HC3 := Lib.hid (fun W (h : Below V3.heap.size V3 W) => chg_cells (heap_below hn h))
  have HB := Lib.hid (B2.out.trans (hb.mono B2.out.size))
  clear hn hn1 hn2 hq hb N2 M2 B2
  refine wp_region_flow [none,none,none,none, some 8, some 9, none,none,none,none,none,none,none,none,none,none,none,none,none,none,none, some 5, some 0, some 1, some 2, some 3, some 4, some 6, some 7, none,none,none,none,none,none,none,none,none,none,none,none,none,none,none,none,none,none,none,none,none,none,none,none,none,none,none,none,none,none,none,none,none,none,none,none,none,none,none,none,none,none,none,none,none,none,none,none] (fun i => [undef,undef,undef,undef,undef,undef,undef,undef,undef,undef].getD i undef) [SchV, (fun v _ => v = .agg #[.int .i64 1, .int .i64 1, .int .i64 1, .int .i64 1, .int .i64 1, .int .i64 0, .slice (some ⟨q1, 0, none⟩) 1 1]), (fun v _ => v = .agg #[.int .i64 2, .int .i64 1, .int .i64 1, .int .i64 2, .int .i64 0, .int .i64 1, .slice (some ⟨q2, 0, none⟩) 1 1]), (BlkV 2 #[.int .i64 1, .int .i64 1, .int .i64 1, .int .i64 1, .int .i64 1, .int .i64 0, .slice (some ⟨q1, 0, none⟩) 1 1, .int .i64 2, .int .i64 1, .int .i64 1, .int .i64 2, .int .i64 0, .int .i64 1, .slice (some ⟨q2, 0, none⟩) 1 1]), (StV (stS exG [ex1, ex2]).1 (stS exG [ex1, ex2]).2), (StV (stS exG [ex1, ex2]).1 (stS exG [ex1, ex2]).2), (RsV (stS exG [ex1, ex2]).1), (fun v _ => v = .int .i64 (stS exG [ex1, ex2]).2), (RsV (stS exG [ex1, ex2]).1), (fun v _ => v = .int .i64 (stS exG [ex1, ex2]).2)] (by kernel_rfl) (by kernel_rfl) rfl rfl rfl ?_ ?_ ?_
  · intro g hg v X Y hX hY hv
    simp only [List.mem_cons, List.not_mem_nil, or_false] at hg
    rcases hg with rfl | rfl | rfl | rfl | rfl | rfl | rfl | rfl | rfl | rfl
    all_goals first
      | exact hv
      | exact hv.kept hY
  · simp only [flowOps, and_true]
    refine ⟨?_,?_,?_,?_,?_,?_,?_,?_,?_,?_⟩
    · intro xs W hW hn
      simp only [flowAct, zwc, zwn]
      go_wp2_with (go_at_call 56; (with_reducible refine (mschema_c _).mono ?_); rintro e9 w9 ⟨v9, rfl, hs9, hb9⟩)
      exact ⟨rfl, _, rfl, hb9, hs9⟩
    · intro xs W hW hn
      obtain ⟨c0, c1, c2, c3, c4, c5, c6⟩ := HC1.out W hW
      simp only [flowAct, zwc, zwn]
      go_wp2_with (fail)
      exact ⟨rfl, _, rfl, Below.refl _ _, rfl⟩
    · intro xs W hW hn
      obtain ⟨c0, c1, c2, c3, c4, c5, c6⟩ := HC2.out W hW
      simp only [flowAct, zwc, zwn]
      go_wp2_with (fail)
      exact ⟨rfl, _, rfl, Below.refl _ _, rfl⟩
    · intro xs W hW hn
      simp [flowNeeds, Region.binds] at hn
      obtain ⟨h0, h1⟩ := hn
      simp only [flowAct, zwc, zwn]
      simp only [h0, h1]
      go_wp2_with (fail)
      exact ⟨rfl, _, rfl, alloc_below _ _, ⟨_, rfl, heap_alloc_new _ _⟩⟩
    · intro xs W hW hn
      simp [flowNeeds, Region.binds] at hn
      simp only [flowAct, zwc, zwn]
      obtain ⟨hs9, hc9, -⟩ := hn
      obtain ⟨q9, e8, hg9⟩ := SchV.grs hs9
      obtain ⟨qc, e9, hc8⟩ := hc9
      have hst := mstate_c hg9 (by decide) (ch_two (heap_below H1.out hW) (heap_below H2.out hW) hc8) (by omega)
      simp only [e8, e9]
      go_wp2_with (go_at_call 44; (with_reducible refine hst.mono ?_); rintro e9 w9 hp9; obtain ⟨v9, rfl, hv9, hb9⟩ := hp9.st)
      exact ⟨rfl, _, rfl, hb9, hv9⟩
    · intro xs W hW hn
      simp [flowNeeds, Region.binds] at hn
      simp only [flowAct, zwc, zwn]
      obtain ⟨v9, e9, hv9⟩ := hn
      simp only [e9]
      go_wp2_with (fail)
      exact ⟨rfl, _, rfl, Below.refl _ _, ⟨v9, rfl, hv9⟩⟩
    · intro xs W hW hn
      simp [flowNeeds, Region.binds] at hn
      simp only [flowAct, zwc, zwn]
      obtain ⟨v9, e9, hv9⟩ := hn
      simp only [e9]
      go_wp2_with (fail)
      exact ⟨rfl, _, rfl, Below.refl _ _, hv9⟩
    · intro xs W hW hn
      simp [flowNeeds, Region.binds] at hn
      simp only [flowAct, zwc, zwn]
      obtain ⟨v9, e9, hv9⟩ := hn
      simp only [e9]
      go_wp2_with (fail)
      exact ⟨rfl, _, rfl, Below.refl _ _, rfl⟩
    · intro xs W hW hn
      simp [flowNeeds, Region.binds] at hn
      have h := hn.1
      simp only [flowAct, zwc, zwn]
      go_wp2_with (fail)
      exact ⟨rfl, _, rfl, Below.refl _ _, h⟩
    · intro xs W hW hn
      simp [flowNeeds, Region.binds] at hn
      have h := hn.1
      simp only [flowAct, zwc, zwn]
      simp only [h]
      go_wp2_with (fail)
      exact ⟨rfl, _, rfl, Below.refl _ _, rfl⟩
  · intro xs W hW hall
    simp only [flowAll, and_true, Nat.zero_add, Nat.reduceAdd] at hall
    obtain ⟨-,-,-,-,-,-,-,-, hr1, e7⟩ := hall
    simp only [flowAct, zwc, zwn]
    obtain ⟨a1, c1, N1, r1, hr1, hp1⟩ := hr1
    have HB1 := Lib.hid (HB.out.trans (hW.mono HB.out.size))
    have HV := Lib.hid hW
    have HR1 := Lib.hid hr1
    have HP1 := Lib.hid hp1
    have HC1 := Lib.hid (fun U (h : Below W.heap.size W U) => HC1.out U (HV.out.trans (h.mono HV.out.size)))
    have HC2 := Lib.hid (fun U (h : Below W.heap.size W U) => HC2.out U (HV.out.trans (h.mono HV.out.size)))
    have HC3 := Lib.hid (fun U (h : Below W.heap.size W U) => HC3.out U (HV.out.trans (h.mono HV.out.size)))
    have e7 : xs 9 = .int .i64 0 := by rw [e7, ex_a]
    simp only [r1, e7]
    clear hW hr1 hp1 r1 e7
    go_upto_region 5 with (fail)
    refine wp_region_flow [none,none,none,none,none,none, some 9, some 10, none,none,none,none,none,none,none,none,none,none,none,none,none,none,none,none,none,none,none,none,none, some 6, some 0, some 1, some 2, some 3, some 4, some 5, some 7, some 8, none,none,none,none,none,none,none,none,none,none,none,none,none,none,none,none,none,none,none,none,none,none,none,none,none,none,none,none,none,none,none,none,none,none,none,none,none,none,none] (fun i => [undef,undef,undef,undef,undef,undef,undef,undef,undef,undef,undef].getD i undef) [SchV, (fun v _ => v = .agg #[.int .i64 1, .int .i64 2, .int .i64 2, .int .i64 1, .int .i64 2, .int .i64 0, .slice (some ⟨q3, 0, none⟩) 1 1]), (fun v _ => v = .agg #[.int .i64 1, .int .i64 1, .int .i64 1, .int .i64 1, .int .i64 1, .int .i64 0, .slice (some ⟨q1, 0, none⟩) 1 1]), (fun v _ => v = .agg #[.int .i64 2, .int .i64 1, .int .i64 1, .int .i64 2, .int .i64 0, .int .i64 1, .slice (some ⟨q2, 0, none⟩) 1 1]), (BlkV 3 #[.int .i64 1, .int .i64 2, .int .i64 2, .int .i64 1, .int .i64 2, .int .i64 0, .slice (some ⟨q3, 0, none⟩) 1 1, .int .i64 1, .int .i64 1, .int .i64 1, .int .i64 1, .int .i64 1, .int .i64 0, .slice (some ⟨q1, 0, none⟩) 1 1, .int .i64 2, .int .i64 1, .int .i64 1, .int .i64 2, .int .i64 0, .int .i64 1, .slice (some ⟨q2, 0, none⟩) 1 1]), (StV (stS exG [ex3, ex1, ex2]).1 (stS exG [ex3, ex1, ex2]).2), (StV (stS exG [ex3, ex1, ex2]).1 (stS exG [ex3, ex1, ex2]).2), (RsV (stS exG [ex3, ex1, ex2]).1), (fun v _ => v = .int .i64 (stS exG [ex3, ex1, ex2]).2), (RsV (stS exG [ex3, ex1, ex2]).1), (fun v _ => v = .int .i64 (stS exG [ex3, ex1, ex2]).2)] (by kernel_rfl) (by kernel_rfl) rfl rfl rfl ?_ ?_ ?_
    · intro g hg v X Y hX hY hv
      simp only [List.mem_cons, List.not_mem_nil, or_false] at hg
      rcases hg with rfl | rfl | rfl | rfl | rfl | rfl | rfl | rfl | rfl | rfl | rfl
      all_goals first
        | exact hv
        | exact hv.kept hY
    · simp only [flowOps, and_true]
      refine ⟨?_,?_,?_,?_,?_,?_,?_,?_,?_,?_,?_⟩
      · intro xs W hW hn
        simp only [flowAct, zwc, zwn]
        go_wp2_with (go_at_call 56; (with_reducible refine (mschema_c _).mono ?_); rintro e9 w9 ⟨v9, rfl, hs9, hb9⟩)
        exact ⟨rfl, _, rfl, hb9, hs9⟩
      · intro xs W hW hn
        obtain ⟨c0, c1, c2, c3, c4, c5, c6⟩ := HC3.out W hW
        simp only [flowAct, zwc, zwn]
        go_wp2_with (fail)
        exact ⟨rfl, _, rfl, Below.refl _ _, rfl⟩
      · intro xs W hW hn
        obtain ⟨c0, c1, c2, c3, c4, c5, c6⟩ := HC1.out W hW
        simp only [flowAct, zwc, zwn]
        go_wp2_with (fail)
        exact ⟨rfl, _, rfl, Below.refl _ _, rfl⟩
      · intro xs W hW hn
        obtain ⟨c0, c1, c2, c3, c4, c5, c6⟩ := HC2.out W hW
        simp only [flowAct, zwc, zwn]
        go_wp2_with (fail)
        exact ⟨rfl, _, rfl, Below.refl _ _, rfl⟩
      · intro xs W hW hn
        simp [flowNeeds, Region.binds] at hn
        obtain ⟨h0, h1, h2⟩ := hn
        simp only [flowAct, zwc, zwn]
        simp only [h0, h1, h2]
        go_wp2_with (fail)
        exact ⟨rfl, _, rfl, alloc_below _ _, ⟨_, rfl, heap_alloc_new _ _⟩⟩
      · intro xs W hW hn
        simp [flowNeeds, Region.binds] at hn
        simp only [flowAct, zwc, zwn]
        obtain ⟨hs9, hc9, -⟩ := hn
        obtain ⟨q9, e8, hg9⟩ := SchV.grs hs9
        obtain ⟨qc, e9, hc8⟩ := hc9
        have hst := mstate_c hg9 (by decide) (ch_three (heap_below H1.out (HV.out.trans (hW.mono HV.out.size))) (heap_below H2.out (HV.out.trans (hW.mono HV.out.size))) (heap_below H3.out (HV.out.trans (hW.mono HV.out.size))) hc8) (by omega)
        simp only [e8, e9]
        go_wp2_with (go_at_call 44; (with_reducible refine hst.mono ?_); rintro e9 w9 hp9; obtain ⟨v9, rfl, hv9, hb9⟩ := hp9.st)
        exact ⟨rfl, _, rfl, hb9, hv9⟩
      · intro xs W hW hn
        simp [flowNeeds, Region.binds] at hn
        simp only [flowAct, zwc, zwn]
        obtain ⟨v9, e9, hv9⟩ := hn
        simp only [e9]
        go_wp2_with (fail)
        exact ⟨rfl, _, rfl, Below.refl _ _, ⟨v9, rfl, hv9⟩⟩
      · intro xs W hW hn
        simp [flowNeeds, Region.binds] at hn
        simp only [flowAct, zwc, zwn]
        obtain ⟨v9, e9, hv9⟩ := hn
        simp only [e9]
        go_wp2_with (fail)
        exact ⟨rfl, _, rfl, Below.refl _ _, hv9⟩
      · intro xs W hW hn
        simp [flowNeeds, Region.binds] at hn
        simp only [flowAct, zwc, zwn]
        obtain ⟨v9, e9, hv9⟩ := hn
        simp only [e9]
        go_wp2_with (fail)
        exact ⟨rfl, _, rfl, Below.refl _ _, rfl⟩
      · intro xs W hW hn
        simp [flowNeeds, Region.binds] at hn
        have h := hn.1
        simp only [flowAct, zwc, zwn]
        go_wp2_with (fail)
        exact ⟨rfl, _, rfl, Below.refl _ _, h⟩
      · intro xs W hW hn
        simp [flowNeeds, Region.binds] at hn
        have h := hn.1
        simp only [flowAct, zwc, zwn]
        simp only [h]
        go_wp2_with (fail)
        exact ⟨rfl, _, rfl, Below.refl _ _, rfl⟩
    · intro xs W hW hall
      simp only [flowAll, and_true, Nat.zero_add, Nat.reduceAdd] at hall
      obtain ⟨-,-,-,-,-,-,-,-,-, hr2, e8⟩ := hall
      simp only [flowAct, zwc, zwn]
      obtain ⟨a2, c2, N2, r2, hr2, hp2⟩ := hr2
      have HB2 := Lib.hid (HB1.out.trans (hW.mono HB1.out.size))
      have HR1 := Lib.hid (HR1.out.below hW)
      have HR2 := Lib.hid hr2
      have HP2 := Lib.hid hp2
      have e8 : xs 10 = .int .i64 0 := by rw [e8, ex_b]
      simp only [r2, e8]
      clear HC1 HC2 HC3 H1 H2 H3 HB HB1 HV hW hr2 hp2 r2 e8
      go_upto_region 7 with (first
        | (go_at_call 56; (with_reducible refine (mschema_c _).mono ?_); rintro e9 w9 ⟨v9, rfl, hs9, hb9⟩
           obtain ⟨q9, rfl, hg9⟩ := SchV.grs hs9)
        | (go_at_call 38; (with_reducible refine (lget_a hg9 (HR1.out.below hb9) HP1.out).mono ?_); rintro e9 w8 ⟨kt, af, nf, cf, rfl, hb8⟩))
      have HB3 := Lib.hid ((HB2.out.trans (hb9.mono HB2.out.size)).trans (hb8.mono (Nat.le_trans HB2.out.size hb9.size)))
      have HR3 := Lib.hid ((HR2.out.below hb9).below hb8)
      obtain ⟨g8, hg8⟩ : ∃ z, w8.heap.size = z := ⟨_, rfl⟩
      have hd8 := alloc_below w8 (.cells #[.string kt, .slice af nf cf] 80)
      rw [hg8]
      have HB4 := Lib.hid (HB3.out.trans (hd8.mono HB3.out.size))
      have HR4 := Lib.hid (HR3.out.below hd8)
      clear hb9 hb8 hs9 hg9 hg8 hd8 HB2 HB3 HR1 HP1 HR2 HR3
      generalize w8.alloc (.cells #[.string kt, .slice af nf cf] 80) = X8 at *
      go_upto_region 8 with (first
        | (go_at_call 56; (with_reducible refine (mschema_c _).mono ?_); rintro e9 w6 ⟨v6, rfl, hs6, hb6⟩
           obtain ⟨q6, rfl, hg6⟩ := SchV.grs hs6)
        | (go_at_call 38; (with_reducible refine (lget_b hg6 (HR4.out.below hb6) HP2.out).mono ?_); rintro e9 w5 ⟨kt5, bf, of, cf5, rfl, hcf, hc5, hb5⟩))
      have hd5 := alloc_below w5 (.cells #[.string kt5, .slice (some ⟨bf, of, none⟩) 1 cf5] 80)
      have hn5 := heap_alloc_new w5 (.cells #[.string kt5, .slice (some ⟨bf, of, none⟩) 1 cf5] 80)
      have hc6 := (hd5.cell (World.block_lt_of_cell? w5 _ hc5)).trans hc5
      have HB5 := Lib.hid ((HB4.out.trans (hb6.mono HB4.out.size)).trans ((hb5.trans (hd5.mono hb5.size)).mono (Nat.le_trans HB4.out.size hb6.size)))
      obtain ⟨g5, hg5⟩ : ∃ z, w5.heap.size = z := ⟨_, rfl⟩
      rw [hg5] at hn5 ⊢
      clear hb5 hb6 hs6 hg6 hg5 hd5 hc5 HB4 HR4 HP2
      generalize w5.alloc (.cells #[.string kt5, .slice (some ⟨bf, of, none⟩) 1 cf5] 80) = X5 at *
      have hv1 : X5.cell? ⟨g5, 1, none⟩ = some (.slice (some ⟨bf, of, none⟩) 1 cf5) := by rw [cell_of_row _ g5 1 _ _ (0, 0) hn5]; rfl
      have hci : (0 : Int) < (cf5 : Int) := by omega
      go_wp2
      go_ret
      exact ⟨rfl, HB5.out⟩
end Go.Proofs.Ytidbjmkfmfojdaa
end

section
namespace Go.Proofs.Ytidbjmkfmfojdaa
open Go.RowKit Go Go.Sort Go.Deep
set_option linter.unusedVariables false
set_option maxRecDepth 20000

theorem grp_cells {H : Type} {enc : TypeId × Value → H} {W : World} {base : Nat} {sp held : Bool} {fuel : Nat} {cs : List Value} {x : DataW H × List MemPlace} (h : DataW.trod enc Try.prog W base (fun _ => sp) held fuel 133 cs = some x) :
    ∃ (s : List UInt8) (p : Int), cs = [.string (text s), .int .i64 p] ∧ s.length ≤ maxLen ∧ -9223372036854775808 ≤ p ∧ p ≤ 9223372036854775807 := by
  obtain ⟨xs, m, _, rfl, hl, hlen, hf⟩ := DataW.trod_struct Try.underlying133 h
  have h2 : Try.prog.cellsOf 133 = 2 := by kernel_rfl
  have h1 : Try.prog.cellsOf 3 = 1 := by kernel_rfl
  have h9 : Try.prog.cellsOf 9 = 1 := by kernel_rfl
  rw [h2] at hl
  match xs, hlen with
  | [y0, y1], _ =>
    have i0 := hf 0 _ rfl
    have i1 := hf 1 _ rfl
    match cs, hl with
    | [c0, c1], _ =>
      have j0 : DataW.trod enc Try.prog W base (fun _ => sp) held m 9 (([c0, c1].drop 0).take (Try.prog.cellsOf 9)) = some y0 := i0
      have j1 : DataW.trod enc Try.prog W base (fun _ => sp) held m 3 (([c0, c1].drop 1).take (Try.prog.cellsOf 3)) = some y1 := i1
      rw [h9] at j0
      rw [h1] at j1
      obtain ⟨s, hs, _, ws⟩ := DataW.trod_string Try.underlying9 j0
      obtain ⟨b, hb, _, wb⟩ := DataW.trod_int Try.underlying3 j1
      simp at hs hb
      subst hs
      subst hb
      exact ⟨s.data.toList, b, rfl, by simpa using ws, i64_of_wf wb⟩
/-- A list of groups that came in. -/
theorem open_grs {H : Type} {enc : TypeId × Value → H} {W : World} {a : Option Addr} {len cap : Nat} {d : DataW H} {p : List MemPlace} (h : DataW.Trod enc Try.prog W 0 (fun _ => true) true 60 (.slice a len cap) d p) :
    ∃ l, Grs W a len cap l ∧ ∀ g ∈ l, g.1.length ≤ 9223372036854775807 := by
  have hc : Try.prog.cellsOf 133 = 2 := by kernel_rfl
  obtain ⟨fuel, hf⟩ := h
  rcases open_slice Try.underlying60 hf with ⟨hcs, hx⟩ | ⟨x, l, c, m, n, D, Pl, hcs, _, hl, hm, hmm, hx, hcell⟩
  · simp [Value.cells] at hcs
    obtain ⟨rfl, rfl, rfl⟩ := hcs
    exact ⟨[], ⟨rfl, Nat.le_refl _, by omega, .inl rfl⟩, by simp⟩
  · simp [Value.cells] at hcs
    obtain ⟨rfl, rfl, rfl⟩ := hcs
    simp only [if_true] at hmm
    subst hmm
    rw [hc] at hcell
    have key : ∀ i, i < m → ∃ q : Grp, W.cell? (x.add (i * 2)) = some (.string (text q.1)) ∧ W.cell? ((x.add (i * 2)).add 1) = some (.int .i64 q.2) ∧ q.1.length ≤ 9223372036854775807 := by
      intro i hi
      obtain ⟨cs', h1, h2⟩ := hcell i hi
      obtain ⟨_, _, h3⟩ := World.cells?_some h1
      obtain ⟨u, v, rfl, hu, hv⟩ := grp_cells (sp := true) h2
      have k0 := h3 0 (by omega)
      have k1 := h3 1 (by omega)
      refine ⟨(u, v), ?_,?_, by unfold maxLen at hu; exact hu⟩
      · simpa [Addr.add] using k0
      · simpa using k1
    obtain ⟨V, hV⟩ := choose_lt (α := Grp) (p := fun i q => W.cell? (x.add (i * 2)) = some (.string (text q.1)) ∧ W.cell? ((x.add (i * 2)).add 1) = some (.int .i64 q.2) ∧ q.1.length ≤ 9223372036854775807) key
    have hgd : ∀ i, i < len → ((List.range len).map V).getD i ([], 0) = V i := fun i hi => by simp [List.getD, hi]
    refine ⟨(List.range len).map V, ⟨by simp, hl, by unfold maxLen at hm; omega, ?_⟩, ?_⟩
    · by_cases hz : m = 0
      · exact .inl hz
      · right
        obtain ⟨b, off, spot⟩ := x
        have h0 := (hV 0 (by omega)).1
        have hspot : spot = none := by simpa [Addr.add] using World.cell?_spot h0
        subst hspot
        refine ⟨b, off, rfl, fun i hi => ?_⟩
        rw [hgd i hi]
        obtain ⟨q1, q2, _⟩ := hV i (by omega)
        have e1 : (⟨b, off, none⟩ : Addr).add (i * 2) = ⟨b, off + i * 2, none⟩ := by
          by_cases h0 : i * 2 = 0
          · rw [h0]; rfl
          · simp [Addr.add, h0]
        rw [e1] at q1 q2
        exact ⟨q1, q2⟩
    · intro g hg
      obtain ⟨i, hi, rfl⟩ := List.mem_map.1 hg
      exact (hV i (by have := List.mem_range.1 hi; omega)).2.2
end Go.Proofs.Ytidbjmkfmfojdaa
end

section
namespace Go.Proofs.Ytidbjmkfmfojdaa
open Go.RowKit Go Go.Sort Go.Deep
set_option linter.unusedVariables false
set_option maxRecDepth 20000

theorem choose_at {α : Type} {n : Nat} {p : Nat → α → Prop} (h : ∀ i, i < n → ∃ q, p i q) : ∃ V : Nat → Option α, ∀ i, i < n → ∃ q, V i = some q ∧ p i q := by
  induction n with
  | zero => exact ⟨fun _ => none, fun i hi => by omega⟩
  | succ n ih =>
    obtain ⟨V, hV⟩ := ih fun i hi => h i (by omega)
    obtain ⟨q, hq⟩ := h n (by omega)
    refine ⟨fun i => if i = n then some q else V i, fun i hi => ?_⟩
    by_cases e : i = n
    · subst e; exact ⟨q, by simp, hq⟩
    · simp only [if_neg e]; exact hV i (by omega)
end Go.Proofs.Ytidbjmkfmfojdaa
end

section
namespace Go.Proofs.Ytidbjmkfmfojdaa
open Go.RowKit Go Go.Sort Go.Deep
set_option linter.unusedVariables false
set_option maxRecDepth 20000

/-- A list of cells that came in. -/
theorem open_cls {H : Type} {enc : TypeId × Value → H} {W : World} {a : Option Addr} {len cap : Nat} {d : DataW H} {p : List MemPlace} (h : DataW.Trod enc Try.prog W 0 (fun _ => true) true 28 (.slice a len cap) d p) :
    ∃ l, Cls W a len cap l ∧ ∀ c ∈ l, c.t.length ≤ 9223372036854775807 := by
  have hc : Try.prog.cellsOf 75 = 8 := by kernel_rfl
  obtain ⟨fuel, hf⟩ := h
  rcases open_slice Try.underlying28 hf with ⟨hcs, hx⟩ | ⟨x, l, c, m, n, D, Pl, hcs, _, hl, hm, hmm, hx, hcell⟩
  · simp [Value.cells] at hcs
    obtain ⟨rfl, rfl, rfl⟩ := hcs
    exact ⟨[], ⟨rfl, Nat.le_refl _, by omega, .inl rfl⟩, by simp⟩
  · simp [Value.cells] at hcs
    obtain ⟨rfl, rfl, rfl⟩ := hcs
    simp only [if_true] at hmm
    subst hmm
    rw [hc] at hcell
    have key : ∀ i, i < m → ∃ q : Cl, (∀ j u, q.arr[j]? = some u → W.cell? ((x.add (i * 8)).add j) = some u) ∧ q.t.length ≤ 9223372036854775807 := by
      intro i hi
      obtain ⟨cs', h1, h2⟩ := hcell i hi
      obtain ⟨_, h3l, h3⟩ := World.cells?_some h1
      obtain ⟨n', s', a', b', g', t', d', e', rfl, _, _, _, _, ht, _, _⟩ := cell_cells (sp := true) h2
      refine ⟨⟨n', s', a', b', g', t', d', e'⟩, fun j u hj => ?_, by unfold maxLen at ht; exact ht⟩
      have hjl : j < 8 := by
        have := (Array.getElem?_eq_some_iff.1 hj).1
        simpa [Cl.arr] using this
      have h4 := h3 j hjl
      rw [h4]
      rw [← hj]
      simp [Cl.arr]
    obtain ⟨V0, hV0⟩ := choose_at key
    obtain ⟨V, hV⟩ : ∃ V : Nat → Cl, ∀ i, i < m → ((∀ j u, (V i).arr[j]? = some u → W.cell? ((x.add (i * 8)).add j) = some u) ∧ (V i).t.length ≤ 9223372036854775807) := by
      refine ⟨fun i => (V0 i).getD Cl.zero, fun i hi => ?_⟩
      obtain ⟨q, hq, hp⟩ := hV0 i hi
      simp only [hq, Option.getD_some]
      exact hp
    have hgd : ∀ i, i < len → ((List.range len).map V).getD i Cl.zero = V i := fun i hi => by simp [List.getD, hi]
    refine ⟨(List.range len).map V, ⟨by simp, hl, by unfold maxLen at hm; omega, ?_⟩, ?_⟩
    · by_cases hz : m = 0
      · exact .inl hz
      · right
        obtain ⟨b, off, spot⟩ := x
        have h0 := (hV 0 (by omega)).1 0 _ rfl
        have hspot : spot = none := by simpa [Addr.add] using World.cell?_spot h0
        subst hspot
        refine ⟨b, off, rfl, fun i hi => ?_⟩
        rw [hgd i hi]
        have hq := (hV i (by omega)).1
        have e1 : (⟨b, off, none⟩ : Addr).add (i * 8) = ⟨b, off + i * 8, none⟩ := by
          by_cases h0 : i * 8 = 0
          · rw [h0]; rfl
          · simp [Addr.add, h0]
        rw [e1] at hq
        exact ⟨hq 0 _ rfl, hq 1 _ rfl, hq 2 _ rfl, hq 3 _ rfl, hq 4 _ rfl, hq 5 _ rfl, hq 6 _ rfl, hq 7 _ rfl⟩
    · intro g hg
      obtain ⟨i, hi, rfl⟩ := List.mem_map.1 hg
      exact (hV i (by have := List.mem_range.1 hi; omega)).2
theorem trod_row {H : Type} {enc : TypeId × Value → H} {W : World} {fuel : Nat} {cs : List Value} {x : DataW H × List MemPlace} (h : DataW.trod enc Try.prog W 0 (fun _ => true) true fuel 30 cs = some x) :
    ∃ (k : List UInt8) (a : Option Addr) (len cap : Nat) (l : List Cl), cs = [.string (text k), .slice a len cap] ∧ k.length ≤ maxLen ∧ Cls W a len cap l ∧ ∀ c ∈ l, c.t.length ≤ 9223372036854775807 := by
  obtain ⟨xs, m, _, rfl, hl, hlen, hf⟩ := DataW.trod_struct Try.underlying30 h
  have h2 : Try.prog.cellsOf 30 = 2 := by kernel_rfl
  have h9 : Try.prog.cellsOf 9 = 1 := by kernel_rfl
  have hc : Try.prog.cellsOf 28 = 1 := by kernel_rfl
  rw [h2] at hl
  match xs, hlen with
  | [y0, y1], _ =>
    have i0 := hf 0 _ rfl
    have i1 := hf 1 _ rfl
    match cs, hl with
    | [c0, c1], _ =>
      have j0 : DataW.trod enc Try.prog W 0 (fun _ => true) true m 9 (([c0, c1].drop 0).take (Try.prog.cellsOf 9)) = some y0 := i0
      have j1 : DataW.trod enc Try.prog W 0 (fun _ => true) true m 28 (([c0, c1].drop 1).take (Try.prog.cellsOf 28)) = some y1 := i1
      rw [h9] at j0
      rw [hc] at j1
      obtain ⟨s, hs, _, ws⟩ := DataW.trod_string Try.underlying9 j0
      simp at hs
      subst hs
      have hv : ∃ a len cap, c1 = .slice a len cap := by
        rcases open_slice Try.underlying28 j1 with ⟨hcs, hx⟩ | ⟨x, l, c, m, n, D, Pl, hcs, _⟩
        · simp at hcs; exact ⟨_, _, _, hcs⟩
        · simp at hcs; exact ⟨_, _, _, hcs⟩
      obtain ⟨a, len, cap, rfl⟩ := hv
      obtain ⟨l, h1, h2⟩ := open_cls (d := y1.1) (p := y1.2) (W := W) (enc := enc) (a := a) (len := len) (cap := cap) ⟨m, j1⟩
      exact ⟨s.data.toList, a, len, cap, l, rfl, by simpa using ws, h1, h2⟩
theorem open_rws {H : Type} {enc : TypeId × Value → H} {W : World} {a : Option Addr} {len cap : Nat} {d : DataW H} {p : List MemPlace} (h : DataW.Trod enc Try.prog W 0 (fun _ => true) true 27 (.slice a len cap) d p) :
    ∃ l, RwsAt W a len cap l ∧ RShort l := by
  have hc : Try.prog.cellsOf 30 = 2 := by kernel_rfl
  obtain ⟨fuel, hf⟩ := h
  rcases open_slice Try.underlying27 hf with ⟨hcs, hx⟩ | ⟨x, l, c, m, n, D, Pl, hcs, _, hl, hm, hmm, hx, hcell⟩
  · simp [Value.cells] at hcs
    obtain ⟨rfl, rfl, rfl⟩ := hcs
    exact ⟨[], ⟨⟨rfl, Nat.le_refl _, by omega, .inl rfl⟩, fun j hj => by omega⟩, fun c hc => by cases hc⟩
  · simp [Value.cells] at hcs
    obtain ⟨rfl, rfl, rfl⟩ := hcs
    simp only [if_true] at hmm
    subst hmm
    rw [hc] at hcell
    have key : ∀ i, i < m → ∃ q : Rw, (∀ j u, q.arr[j]? = some u → W.cell? ((x.add (i * 2)).add j) = some u) ∧ (∃ a' c, q.u = .slice a' q.cs.length c ∧ Cls W a' q.cs.length c q.cs) ∧ q.k.length ≤ 9223372036854775807 ∧ ∀ c ∈ q.cs, c.t.length ≤ 9223372036854775807 := by
      intro i hi
      obtain ⟨cs', h1, h2⟩ := hcell i hi
      obtain ⟨_, h3l, h3⟩ := World.cells?_some h1
      obtain ⟨k', ad, len', cap', l', rfl, hk', hw, hx⟩ := trod_row h2
      obtain rfl := hw.len
      refine ⟨⟨k', .slice ad l'.length cap', l'⟩, fun j u hj => ?_, ⟨ad, cap', rfl, hw⟩, by unfold maxLen at hk'; exact hk', hx⟩
      have hjl : j < 2 := by
        have := (Array.getElem?_eq_some_iff.1 hj).1
        simpa [Rw.arr] using this
      have h4 := h3 j hjl
      rw [h4]
      rw [← hj]
      simp [Rw.arr]
    obtain ⟨V0, hV0⟩ := choose_at key
    obtain ⟨V, hV⟩ : ∃ V : Nat → Rw, ∀ i, i < m → ((∀ j u, (V i).arr[j]? = some u → W.cell? ((x.add (i * 2)).add j) = some u) ∧ (∃ a' c, (V i).u = .slice a' (V i).cs.length c ∧ Cls W a' (V i).cs.length c (V i).cs) ∧ (V i).k.length ≤ 9223372036854775807 ∧ ∀ c ∈ (V i).cs, c.t.length ≤ 9223372036854775807) := by
      refine ⟨fun i => (V0 i).getD Rw.zero, fun i hi => ?_⟩
      obtain ⟨q, hq, hp⟩ := hV0 i hi
      simp only [hq, Option.getD_some]
      exact hp
    have hgd : ∀ i, i < len → ((List.range len).map V).getD i Rw.zero = V i := fun i hi => by simp [List.getD, hi]
    refine ⟨(List.range len).map V, ⟨⟨by simp, hl, by unfold maxLen at hm; omega, ?_⟩, ?_⟩, ?_⟩
    · by_cases hz : m = 0
      · exact .inl hz
      · right
        obtain ⟨b, off, spot⟩ := x
        have h0 := (hV 0 (by omega)).1 0 _ rfl
        have hspot : spot = none := by simpa [Addr.add] using World.cell?_spot h0
        subst hspot
        refine ⟨b, off, rfl, fun i hi j u hj => ?_⟩
        rw [hgd i hi] at hj
        have hq := (hV i (by omega)).1
        have e1 : (⟨b, off, none⟩ : Addr).add (i * 2) = ⟨b, off + i * 2, none⟩ := by
          by_cases h0 : i * 2 = 0
          · rw [h0]; rfl
          · simp [Addr.add, h0]
        rw [e1] at hq
        have e2 : (⟨b, off + i * 2, none⟩ : Addr).add j = ⟨b, off + i * 2 + j, none⟩ := by
          by_cases h0 : j = 0
          · subst h0; rfl
          · simp [Addr.add, h0]
        have h5 := hq j u hj
        rw [e2] at h5
        exact h5
    · intro i hi
      have h9 := (hV i (by omega)).2.1
      rwa [hgd i hi]
    · intro r hr
      obtain ⟨i, hi, rfl⟩ := List.mem_map.1 hr
      exact (hV i (by have := List.mem_range.1 hi; omega)).2.2
end Go.Proofs.Ytidbjmkfmfojdaa
end

