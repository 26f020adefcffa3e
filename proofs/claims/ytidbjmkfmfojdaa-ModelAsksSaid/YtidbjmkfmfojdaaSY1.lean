/-
  Merged: CS K2 A0 MS MT A1 A2 B3 A6 BB AM BE BF BG BH BI BJ.
-/
import Derived.Deep.QuietTactic
import Derived.StillTail
import Derived.Lib.QuietBelow
import Derived.Test.YtidbjmkfmfojdaaRows
import Derived.WalkKit
import Derived.Lib.Hide
import Derived.BigQuiet
import Derived.BigRegion
import Derived.Deep.Cut
import Derived.Deep.MidRow
import Derived.Great.BuildSlice
import Derived.Outline
import Derived.OwnWalk
import Derived.Laws.Rows
import Derived.ChangeKeysEq
import Derived.Laws.StructEq
import Derived.WalkSpells
import Derived.WalkLawsBesides
import Derived.Laws.CopyOwn
import Derived.WalkSmall
import Derived.Lib.LaidTab
import Derived.Deep.RegionWith
import Derived.Lib.MinMax
import Derived.WideShapes
import Derived.ChangeSame
import Derived.OpenShut
import Derived.Deep.Slices
import Derived.Deep.AppendSrc
import Derived.Lib.AppendZerosOnto
import Derived.Lib.SliceRun
import Derived.Lib.Walk
import Derived.Lib.OthersKept
import Derived.Laws.RangeAny
import Derived.Maps.OwnOps
import Derived.Maps.Views
import Derived.ChangeSlices
import Derived.ChangeArms
import Derived.Deep.DeepAppendWide
import Derived.OrdersIn
import Derived.TacticsIn
import Derived.RangeFuncNested
import Derived.RangeFuncBound
import Derived.RangeFuncCalls
import Derived.RangeFuncLeaves
import Derived.Maps.AppendAt
import Derived.Shelf.Abstract
import Derived.OwnWalkIn
import Derived.TacticsInMore
import Derived.LoopNIn
import Derived.LoopIn
import Derived.Test.YtidbjmkfmfojdaaSK6

section
namespace Go.Proofs.Ytidbjmkfmfojdaa
open Go.RowKit Go Go.Sort
set_option linter.unusedVariables false
set_option maxRecDepth 20000

set_option maxHeartbeats 1600000 in
theorem rvcov_c (a b c d : Int) (w : World) : Calls Try.prog 117 #[.agg #[.int .i64 a, .int .i64 b], .agg #[.int .i64 c, .int .i64 d]] w (Tells (.bool (vcov a b c d)) w) := by
  have hp := (Pair.new w 73 a b).alloc (.cells #[.int .i64 c, .int .i64 d] 73)
  have hq := Pair.new (w.alloc (.cells #[.int .i64 a, .int .i64 b] 73)) 73 c d
  rw [World.size_alloc] at hq
  have hb := (alloc_below w (.cells #[.int .i64 a, .int .i64 b] 73)).alloc (by simp) (.cells #[.int .i64 c, .int .i64 d] 73)
  have h0 := hp.c0
  have h1 := hp.c1
  have k0 := hq.c0
  have k1 := hq.c1
  have HB := Lib.hid hb
  have HV := Lib.hid (show vcov a b c d = (decide (c ≤ a) && decide (d ≤ b)) from rfl)
  clear hp hq hb
  by_cases g0 : c ≤ a
  · by_cases g1 : d ≤ b
    · go_enter Try.func117, Try.ntmps117
      go_wp2
      go_ret
      exact ⟨by rw [HV.out]; simp; omega, HB.out⟩
    · go_enter Try.func117, Try.ntmps117
      go_wp2
      go_ret
      exact ⟨by rw [HV.out]; simp; omega, HB.out⟩
  · go_enter Try.func117, Try.ntmps117
    go_wp2
    go_ret
    exact ⟨by rw [HV.out]; simp; omega, HB.out⟩
end Go.Proofs.Ytidbjmkfmfojdaa
end

section
namespace Go.Proofs.Ytidbjmkfmfojdaa
open Go.RowKit Go Go.Sort
set_option linter.unusedVariables false
set_option maxRecDepth 20000

set_option maxHeartbeats 6400000 in
theorem rcseen_c (p n s a b : Int) (g : Bool) (t : List UInt8) (d e : Int) (hmax : t.length ≤ 9223372036854775807) (w : World) :
    Calls Try.prog 93 #[.int .i64 p, .agg #[.int .i64 n, .int .i64 s, .int .i64 a, .int .i64 b, .bool g, .string (text t), .int .i64 d, .int .i64 e]] w (Tells (.tuple #[.string (text (cseenS p n s a b g t d e).1), .bool (cseenS p n s a b g t d e).2]) w) := by
  have hp := Cel.new w n s a b g t d e
  have hb := alloc_below w (.cells #[.int .i64 n, .int .i64 s, .int .i64 a, .int .i64 b, .bool g, .string (text t), .int .i64 d, .int .i64 e] 75)
  have HB := Lib.hid hb
  have HV := (show cseenS p n s a b g t d e = if (cgoodS p n s a b g t d e && (wroteS n s a b g t && (!g && vcov a b d e))) = true then (t, true) else ([], false) from rfl)
  obtain ⟨r, hr⟩ : ∃ r, cseenS p n s a b g t d e = r := ⟨_, rfl⟩
  rw [hr] at HV ⊢
  have HG := fun W => rcgood_c p n s a b g t d e hmax W
  have HW := fun W => rwritten_c n s a b g t d e W
  have HK := fun W => rvcov_c a b d e W
  clear hb hr hmax
  go_enter Try.func93, Try.ntmps93
  go_upto_region 1 with (fail)
  have HC := Lib.hid (fun W (h : Below (w.alloc (.cells #[.int .i64 n, .int .i64 s, .int .i64 a, .int .i64 b, .bool g, .string (text t), .int .i64 d, .int .i64 e] 75)).heap.size (w.alloc (.cells #[.int .i64 n, .int .i64 s, .int .i64 a, .int .i64 b, .bool g, .string (text t), .int .i64 d, .int .i64 e] 75)) W) => (hp.kept h).cs)
  generalize w.alloc (.cells #[.int .i64 n, .int .i64 s, .int .i64 a, .int .i64 b, .bool g, .string (text t), .int .i64 d, .int .i64 e] 75) = W1 at *
  clear hp
  have hcur := Below.refl W1.heap.size W1
  obtain ⟨c0, c1, c2, c3, c4, c5, c6, c7⟩ := HC.out _ hcur
  cases hg : cgoodS p n s a b g t d e with
  | false =>
    rw [hg] at HG
    rw [hg] at HV
    clear hg
    replace HG := Lib.hid HG
    replace HV := Lib.hid HV
    clear HW HK
    go_wp2_with (first
      | (go_at_call 89; (with_reducible refine (HG.out _).mono ?_); rintro e9 w9 ⟨rfl, hb9⟩; (replace hcur := hcur.trans (hb9.mono hcur.size)); clear hb9; obtain ⟨c0, c1, c2, c3, c4, c5, c6, c7⟩ := HC.out _ hcur))
    go_ret2
    exact ⟨by rw [HV.out]; rfl, HB.out.trans (hcur.mono HB.out.size)⟩
  | true =>
    rw [hg] at HG
    rw [hg] at HV
    clear hg
    cases hw : wroteS n s a b g t with
    | false =>
      rw [hw] at HW
      rw [hw] at HV
      clear hw
      replace HG := Lib.hid HG
      replace HW := Lib.hid HW
      replace HV := Lib.hid HV
      clear HK
      go_wp2_with (first
        | (go_at_call 89; (with_reducible refine (HG.out _).mono ?_); rintro e9 w9 ⟨rfl, hb9⟩; (replace hcur := hcur.trans (hb9.mono hcur.size)); clear hb9; obtain ⟨c0, c1, c2, c3, c4, c5, c6, c7⟩ := HC.out _ hcur)
        | (go_at_call 114; (with_reducible refine (HW.out _).mono ?_); rintro e9 w9 ⟨rfl, hb9⟩; (replace hcur := hcur.trans (hb9.mono hcur.size)); clear hb9; obtain ⟨c0, c1, c2, c3, c4, c5, c6, c7⟩ := HC.out _ hcur))
      go_ret2
      exact ⟨by rw [HV.out]; rfl, HB.out.trans (hcur.mono HB.out.size)⟩
    | true =>
      rw [hw] at HW
      rw [hw] at HV
      clear hw
      cases g with
      | true =>
        replace HG := Lib.hid HG
        replace HW := Lib.hid HW
        replace HV := Lib.hid HV
        clear HK
        go_wp2_with (first
          | (go_at_call 89; (with_reducible refine (HG.out _).mono ?_); rintro e9 w9 ⟨rfl, hb9⟩; (replace hcur := hcur.trans (hb9.mono hcur.size)); clear hb9; obtain ⟨c0, c1, c2, c3, c4, c5, c6, c7⟩ := HC.out _ hcur)
          | (go_at_call 114; (with_reducible refine (HW.out _).mono ?_); rintro e9 w9 ⟨rfl, hb9⟩; (replace hcur := hcur.trans (hb9.mono hcur.size)); clear hb9; obtain ⟨c0, c1, c2, c3, c4, c5, c6, c7⟩ := HC.out _ hcur))
        go_ret2
        exact ⟨by rw [HV.out]; rfl, HB.out.trans (hcur.mono HB.out.size)⟩
      | false =>
        cases hk : vcov a b d e with
        | false =>
          rw [hk] at HK
          rw [hk] at HV
          clear hk
          replace HG := Lib.hid HG
          replace HW := Lib.hid HW
          replace HK := Lib.hid HK
          replace HV := Lib.hid HV
          go_wp2_with (first
            | (go_at_call 89; (with_reducible refine (HG.out _).mono ?_); rintro e9 w9 ⟨rfl, hb9⟩; (replace hcur := hcur.trans (hb9.mono hcur.size)); clear hb9; obtain ⟨c0, c1, c2, c3, c4, c5, c6, c7⟩ := HC.out _ hcur)
            | (go_at_call 114; (with_reducible refine (HW.out _).mono ?_); rintro e9 w9 ⟨rfl, hb9⟩; (replace hcur := hcur.trans (hb9.mono hcur.size)); clear hb9; obtain ⟨c0, c1, c2, c3, c4, c5, c6, c7⟩ := HC.out _ hcur)
            | (go_at_call 117; (with_reducible refine (HK.out _).mono ?_); rintro e9 w9 ⟨rfl, hb9⟩; (replace hcur := hcur.trans (hb9.mono hcur.size)); clear hb9; obtain ⟨c0, c1, c2, c3, c4, c5, c6, c7⟩ := HC.out _ hcur))
          go_ret2
          exact ⟨by rw [HV.out]; rfl, HB.out.trans (hcur.mono HB.out.size)⟩
        | true =>
          rw [hk] at HK
          rw [hk] at HV
          clear hk
          replace HG := Lib.hid HG
          replace HW := Lib.hid HW
          replace HK := Lib.hid HK
          replace HV := Lib.hid HV
          go_wp2_with (first
            | (go_at_call 89; (with_reducible refine (HG.out _).mono ?_); rintro e9 w9 ⟨rfl, hb9⟩; (replace hcur := hcur.trans (hb9.mono hcur.size)); clear hb9; obtain ⟨c0, c1, c2, c3, c4, c5, c6, c7⟩ := HC.out _ hcur)
            | (go_at_call 114; (with_reducible refine (HW.out _).mono ?_); rintro e9 w9 ⟨rfl, hb9⟩; (replace hcur := hcur.trans (hb9.mono hcur.size)); clear hb9; obtain ⟨c0, c1, c2, c3, c4, c5, c6, c7⟩ := HC.out _ hcur)
            | (go_at_call 117; (with_reducible refine (HK.out _).mono ?_); rintro e9 w9 ⟨rfl, hb9⟩; (replace hcur := hcur.trans (hb9.mono hcur.size)); clear hb9; obtain ⟨c0, c1, c2, c3, c4, c5, c6, c7⟩ := HC.out _ hcur))
          go_ret2
          exact ⟨by rw [HV.out]; rfl, HB.out.trans (hcur.mono HB.out.size)⟩

end Go.Proofs.Ytidbjmkfmfojdaa
end

section
namespace Go.Proofs.Ytidbjmkfmfojdaa
open Go.RowKit Go Go.Sort
set_option linter.unusedVariables false

section
variable {K V : Type} {lt : K → K → Bool}
theorem look_cons [DecidableEq K] (r : K × V) (S : List (K × V)) (k : K) : look (r :: S) k = if r.1 = k then some r.2 else look S k := rfl
end
section
variable {α K : Type} {lt : K → K → Bool}
end
section
variable {K V : Type} {lt : K → K → Bool}
end
end Go.Proofs.Ytidbjmkfmfojdaa
end

section
namespace Go.Proofs.Ytidbjmkfmfojdaa
open Go.RowKit Go Go.Sort
set_option linter.unusedVariables false
set_option maxRecDepth 20000

theorem view_cells {W : World} {q : Nat} {k0 : ByteArray} {v0 : Value} (h : W.heap[q]? = some (.cells #[.string k0, v0] 80 (0, 0))) :
    W.cell? ⟨q, 0, none⟩ = some (.string k0) ∧ W.cell? ⟨q, 1, none⟩ = some v0 ∧ ∀ i, W.frozen? ⟨q, i, none⟩ = false :=
  ⟨by rw [cell_of_row _ q 0 _ _ (0, 0) h]; rfl, by rw [cell_of_row _ q 1 _ _ (0, 0) h]; rfl, fun i => frozen_of_row _ q i _ _ h⟩
/-- append(v, f), v of the call's own. -/
theorem wpList_append_fld {w : World} {ops : Array Oper} {rest : List Oper} {o : Oper} {a : Act} {Q : Exit → Act → World → Prop} (hgd : o.guard = none) (s x : Operand)
    (ho : o.op = .call { callee := .builtin .append, args := #[s, x], argTypes := #[78, 78] })
    {base : Nat} {v : Value} {l : List Fld} (hs : a.eval s = v) (hown : OwnF w base v l) {t : ByteArray} (g : List UInt8) {p : Int} (ht : t = text g) {e : TypeId}
    (hx : a.eval x = .slice (some ⟨w.heap.size, 0, none⟩) 1 1) (h63 : l.length ≤ 1000000000) (hbase : base ≤ w.heap.size)
    (h : ∀ g' cap' w', OwnF w' base (.slice (some ⟨g', 0, none⟩) (l.length + 1) cap') (l ++ [(p, g)]) → (w.alloc (.cells #[.int .i64 p, .string t] e)).grownBy w' v.ownBlock → wpList Try.prog ops Q rest (a.put o.dst (.slice (some ⟨g', 0, none⟩) (l.length + 1) cap')) w') :
    wpList Try.prog ops Q (o :: rest) a (w.alloc (.cells #[.int .i64 p, .string t] e)) := by
  subst ht
  obtain ⟨i0, hi, hz0, hz1, hz2⟩ := info_parts Try.infoF
  refine wpList_append_own_wide (P := Try.prog) (w.alloc (.cells #[.int .i64 p, .string (text g)] e)) hgd s x 78 ho base 96 i0 _ 2 24 Try.underlying78 hi hz0 hz1 hz2 rfl (by decide) v l.length (fCells l) hs (World.ownsRow.alloc hown _)
    ⟨w.heap.size, 0, none⟩ 1 1 [.int .i64 p, .string (text g)] hx rfl ?_ ?_ (by unfold maxLen; omega) (by omega) (by simp; omega) ?_
  · intro j u hj
    rw [addr_add, Nat.zero_add, cell_of_row _ _ j #[.int .i64 p, .string (text g)] e (0, 0) (by rw [heap_alloc_new])]
    rw [← hj]; simp
  · intro u hu
    simp only [List.mem_cons, List.not_mem_nil, or_false] at hu
    rcases hu with rfl | rfl <;> rfl
  · intro v' w' h2 h3 _
    obtain ⟨g', cap', rfl⟩ := ownsRow_succ h2
    refine h g' cap' w' ?_ h3
    unfold OwnF
    rw [List.length_append, fCells_append]
    exact h2

set_option maxRecDepth 100000 in
set_option maxHeartbeats 6400000 in
theorem rview_c {w : World} {x x2 : Option Addr} {n1 cap m cap2 : Nat} {gs : List Grp} {cs : List Cl} (hg : Grs w x n1 cap gs) (hs : ∀ g ∈ gs, g.1.length ≤ 9223372036854775807)
    (hl : Cls w x2 m cap2 cs) (hx : ∀ c ∈ cs, c.t.length ≤ 9223372036854775807) (key : List UInt8) (hk : key.length ≤ 9223372036854775807) :
    Calls Try.prog 69 #[.slice x n1 cap, .agg #[.string (text key), .slice x2 m cap2]] w (ViewPost (viewS gs key cs) w) := by
  have hgl := hg.len
  have hll := hl.len
  have hle1 := hg.le
  have hmax1 := hg.max
  have hle2 := hl.le
  have hmax2 := hl.max
  have hGD := fun W (h : Below w.heap.size w W) => rrowgood_c (hg.below h) hs (hl.below h) hx key hk
  have H0 := Lib.hid (@view_bad gs key cs)
  have H1 := Lib.hid (@view_none gs key cs)
  have H2 := Lib.hid (@view_some gs key cs)
  have HIN := Lib.hid (@rgood_inv gs key cs)
  have HG := Lib.hid hg
  have HL := Lib.hid hl
  have HX := Lib.hid hx
  obtain ⟨RV, hRV⟩ : ∃ z, viewS gs key cs = z := ⟨_, rfl⟩
  obtain ⟨R, hR⟩ : ∃ z, rgoodS gs key cs = z := ⟨_, rfl⟩
  rw [hR] at H0 H2 HIN
  simp only [hR] at hGD
  rw [hRV] at H0 H1 H2 ⊢
  obtain ⟨tk, htk⟩ : ∃ z, text key = z := ⟨_, rfl⟩
  rw [htk] at hGD ⊢
  have HTK := Lib.hid htk
  have hB1 := (alloc_below w (.cells #[.string tk, .slice x2 m cap2] 30)).alloc (by simp) (.cells #[.string ⟨#[]⟩, .slice none 0 0] 80)
  have hr1 : ((w.alloc (.cells #[.string tk, .slice x2 m cap2] 30)).alloc (.cells #[.string ⟨#[]⟩, .slice none 0 0] 80)).heap[w.heap.size]? = some (.cells #[.string tk, .slice x2 m cap2] 30 (0, 0)) := (Below.heap_alloc _ _ _ (by simp)).trans (heap_alloc_new w _)
  have he1 := heap_alloc_new (w.alloc (.cells #[.string tk, .slice x2 m cap2] 30)) (.cells #[.string ⟨#[]⟩, .slice none 0 0] 80)
  rw [World.size_alloc] at he1
  have HGD := Lib.hid hGD
  clear hRV hR hGD htk hk hg hl hx hs
  go_enter Try.func69, Try.ntmps69
  go_upto_region 1 with (fail)
  obtain ⟨B, hB⟩ : ∃ q, w.heap.size = q := ⟨_, rfl⟩
  have HBe := Lib.hid hB
  rw [hB] at hr1 he1 ⊢
  clear hB
  generalize (w.alloc (.cells #[.string tk, .slice x2 m cap2] 30)).alloc (.cells #[.string ⟨#[]⟩, .slice none 0 0] 80) = W1 at *
  obtain ⟨r0, r1, -⟩ := row_cells hr1
  have HR1 := Lib.hid hr1
  have HE1 := Lib.hid he1
  have HB1 := Lib.hid hB1
  clear hr1 he1 hB1
  by_cases h0 : R = 0
  · subst h0
    obtain ⟨hp0, hk0, hlen, hcg⟩ := HIN.out rfl
    have h4 := pgood_len hp0
    obtain rfl : m = n1 := by omega
    clear HIN hp0 hk0 hcg
    go_upto_region 3 with (go_at_call 63; (with_reducible refine (HGD.out _ HB1.out).mono ?_); rintro e9 w2 ⟨rfl, hb2⟩)
    have hr2 := (hb2.block _ (Array.getElem?_eq_some_iff.1 HR1.out).1).trans HR1.out
    have he2 := (hb2.block _ (Array.getElem?_eq_some_iff.1 HE1.out).1).trans HE1.out
    have HB2 := Lib.hid (HB1.out.trans (hb2.mono HB1.out.size))
    clear hb2 HR1 HE1 HB1 HGD r0 r1
    obtain ⟨r0, r1, -⟩ := row_cells hr2
    have HR2 := Lib.hid hr2
    have HE2 := Lib.hid he2
    clear hr2 he2
    go_upto_region 4 with (fail)
    have hr3 := (Below.heap_alloc w2 (.cells #[.string tk, .slice none 0 0] 80) B (Array.getElem?_eq_some_iff.1 HR2.out).1).trans HR2.out
    have he3 := (Below.heap_alloc w2 (.cells #[.string tk, .slice none 0 0] 80) (B + 1) (Array.getElem?_eq_some_iff.1 HE2.out).1).trans HE2.out
    have hv3 := heap_alloc_new w2 (.cells #[.string tk, .slice none 0 0] 80)
    have hb3 := HB2.out.alloc HB2.out.size (.cells #[.string tk, .slice none 0 0] 80)
    have HLT := Lib.hid (show B + 1 < w2.heap.size from (Array.getElem?_eq_some_iff.1 HE2.out).1)
    obtain ⟨G0, hG⟩ : ∃ q, w2.heap.size = q := ⟨_, rfl⟩
    rw [hG] at hv3 HLT ⊢
    generalize w2.alloc (.cells #[.string tk, .slice none 0 0] 80) = W3 at *
    have HR3 := Lib.hid hr3
    have HE3 := Lib.hid he3
    have HV3 := Lib.hid hv3
    have HB3 := Lib.hid hb3
    clear hr3 he3 hv3 hb3 hG HR2 HE2 HB2 r0 r1
    go_wp2
    go_loopw [7] (fun i wr => ∃ k v, k ≤ m ∧ i = .int .i64 ((k : Nat) : Int) ∧ OwnF wr w.heap.size v (fieldsN gs cs k) ∧ Below w.heap.size w wr ∧ wr.heap[B]? = some (.cells #[.string tk, .slice x2 m cap2] 30 (0, 0)) ∧ wr.heap[B + 1]? = some (.cells #[.string ⟨#[]⟩, .slice none 0 0] 80 (0, 0)) ∧ wr.heap[G0]? = some (.cells #[.string tk, v] 80 (0, 0))) (fun i _ => m - (intOf i).toNat)
    case atStart => exact ⟨0, .slice none 0 0, by omega, rfl, OwnF.nil _ _, HB3.out, HR3.out, HE3.out, HV3.out⟩
    case round =>
      clear HB3 HR3 HE3 HV3
      obtain ⟨i, v, hk, rfl, ho, hB, hr, he, hv⟩ := hrel
      obtain ⟨a9, c9, rfl, -⟩ := OwnF.flds ho
      have hnl := fieldsN_le gs cs i
      have hFY := @fieldsN_yes gs cs i
      have hFN := @fieldsN_no gs cs i
      obtain ⟨Z, hZ⟩ : ∃ z, fieldsN gs cs i = z := ⟨_, rfl⟩
      rw [hZ] at ho hv hnl
      have HZ := Lib.hid hZ
      have HO := Lib.hid ho
      have HB := Lib.hid hB
      have HR := Lib.hid hr
      have HE := Lib.hid he
      have HV := Lib.hid hv
      have HNL := Lib.hid hnl
      clear hZ
      by_cases hlt : i < m
      · have hki : (i : Int) < (m : Int) := by omega
        have hki1 : (i : Int) < (cap : Int) := by omega
        have hki2 : (i : Int) < (cap2 : Int) := by omega
        obtain ⟨bg, offg, rfl, hatg⟩ := HG.out.at hlt
        obtain ⟨bk, off, rfl, hat⟩ := HL.out.at hlt
        have hcx := HX.out (cs.getD i Cl.zero) (mem_getDd (by omega))
        have hse : seenAt gs cs i = cseenS (gs.getD i ([], 0)).2 (cs.getD i Cl.zero).n (cs.getD i Cl.zero).s (cs.getD i Cl.zero).a (cs.getD i Cl.zero).b (cs.getD i Cl.zero).g (cs.getD i Cl.zero).t (cs.getD i Cl.zero).d (cs.getD i Cl.zero).e := rfl
        obtain ⟨⟨nm, pk⟩, hgk⟩ : ∃ y, gs.getD i ([], 0) = y := ⟨_, rfl⟩
        obtain ⟨y, hck⟩ : ∃ y, cs.getD i Cl.zero = y := ⟨_, rfl⟩
        rw [hck] at hat hcx hse
        rw [hgk] at hatg hse
        obtain ⟨n, s, a, b, g, t, d, e⟩ := y
        simp only at hcx hse
        obtain ⟨⟨C1, C2⟩, hCC⟩ : ∃ z, seenAt gs cs i = z := ⟨_, rfl⟩
        have hC := fun W => rcseen_c pk n s a b g t d e hcx W
        rw [← hse, hCC] at hC
        rw [hCC] at hFY hFN
        simp only at hC hFY hFN
        obtain ⟨tc, htc⟩ : ∃ z, text C1 = z := ⟨_, rfl⟩
        rw [htc] at hC
        have HTC := Lib.hid htc
        have HFY := Lib.hid hFY
        have HFN := Lib.hid hFN
        have HC := Lib.hid hC
        have HGW := Lib.hid (fun W (h : Below wr.heap.size wr W) => hatg W (hB.trans (h.mono hB.size)))
        have HPW := Lib.hid (fun W (h : Below wr.heap.size wr W) => hat W (hB.trans (h.mono hB.size)))
        have HRB := Lib.hid (fun W (h : Below wr.heap.size wr W) => (show W.cell? ⟨B, 1, none⟩ = some (.slice (some ⟨bk, off, none⟩) m cap2) by rw [cell_of_row _ B 1 _ _ (0, 0) ((h.block _ (Array.getElem?_eq_some_iff.1 hr).1).trans hr)]; rfl))
        clear ho hB hr he hv hatg hat hcx hse hgk hck hCC hC hFY hFN htc hnl
        go_upto_region 7 with (fail)
        refine wp_region_flow [none,none,none,none,none,none,none,none, some 14, some 15, none,none,none,none,none,none,none,none,none,none,none,none,none,none, some 11, some 0, some 1, some 2, some 3, some 4, some 5, some 6, some 7, some 8, some 9, some 10, some 12, some 13, none,none,none,none,none,none,none,none,none,none,none,none,none,none,none] (fun i => [u25, u26, u27, u28, u29, u30, u31, u32, u33, u34, u35, u24, u36, u37, u8, u9].getD i undef) [(fun v _ => v = .slice (some ⟨bg, offg, none⟩) m cap), (fun v _ => v = .int .i64 (i : Int)), (fun v _ => v = .pointer (some ⟨bg, offg + i * 2, none⟩)), (fun v _ => v = .pointer (some ⟨bg, offg + i * 2 + 1, none⟩)), (fun v _ => v = .int .i64 pk), (fun v _ => v = .pointer (some ⟨B, 1, none⟩)), (fun v _ => v = .slice (some ⟨bk, off, none⟩) m cap2), (fun v _ => v = .int .i64 (i : Int)), (fun v _ => v = .pointer (some ⟨bk, off + i * 8, none⟩)), (fun v _ => v = .agg #[.int .i64 n, .int .i64 s, .int .i64 a, .int .i64 b, .bool g, .string (text t), .int .i64 d, .int .i64 e]), (fun v _ => v = .tuple #[.string tc, .bool C2]), (fun v _ => v = .tuple #[.string tc, .bool C2]), (fun v _ => v = .string tc), (fun v _ => v = .bool C2), (fun v _ => v = .string tc), (fun v _ => v = .bool C2)] (by kernel_rfl) (by kernel_rfl) rfl rfl rfl ?_ ?_ ?_
        · intro g hg v X Y hX hY hv
          simp only [List.mem_cons, List.not_mem_nil, or_false] at hg
          rcases hg with rfl | rfl | rfl | rfl | rfl | rfl | rfl | rfl | rfl | rfl | rfl | rfl | rfl | rfl | rfl | rfl
          all_goals first
            | exact hv
            | exact hv.kept hY
        · simp only [flowOps, and_true]
          refine ⟨?_,?_,?_,?_,?_,?_,?_,?_,?_,?_,?_,?_,?_,?_,?_,?_⟩
          · intro xs W hW hn
            simp only [flowAct, zwc, zwn]
            go_wp2_with (fail)
            exact ⟨rfl, _, rfl, Below.refl _ _, rfl⟩
          · intro xs W hW hn
            simp only [flowAct, zwc, zwn]
            go_wp2_with (fail)
            exact ⟨rfl, _, rfl, Below.refl _ _, rfl⟩
          · intro xs W hW hn
            simp [flowNeeds, Region.binds] at hn
            simp only [flowAct, zwc, zwn]
            try simp only [hn]
            go_wp2_with (fail)
            exact ⟨rfl, _, rfl, Below.refl _ _, rfl⟩
          · intro xs W hW hn
            simp [flowNeeds, Region.binds] at hn
            simp only [flowAct, zwc, zwn]
            try simp only [hn]
            go_wp2_with (fail)
            exact ⟨rfl, _, rfl, Below.refl _ _, rfl⟩
          · intro xs W hW hn
            obtain ⟨g0, g1⟩ := HGW.out W hW
            simp only at g0 g1
            simp [flowNeeds, Region.binds] at hn
            simp only [flowAct, zwc, zwn]
            try simp only [hn]
            go_wp2_with (fail)
            exact ⟨rfl, _, rfl, Below.refl _ _, rfl⟩
          · intro xs W hW hn
            simp only [flowAct, zwc, zwn]
            go_wp2_with (fail)
            exact ⟨rfl, _, rfl, Below.refl _ _, rfl⟩
          · intro xs W hW hn
            have rb1 := HRB.out W hW
            simp [flowNeeds, Region.binds] at hn
            simp only [flowAct, zwc, zwn]
            try simp only [hn]
            go_wp2_with (fail)
            exact ⟨rfl, _, rfl, Below.refl _ _, rfl⟩
          · intro xs W hW hn
            simp only [flowAct, zwc, zwn]
            go_wp2_with (fail)
            exact ⟨rfl, _, rfl, Below.refl _ _, rfl⟩
          · intro xs W hW hn
            simp [flowNeeds, Region.binds] at hn
            simp only [flowAct, zwc, zwn]
            try simp only [hn]
            go_wp2_with (fail)
            exact ⟨rfl, _, rfl, Below.refl _ _, rfl⟩
          · intro xs W hW hn
            obtain ⟨p0, p1, p2, p3, p4, p5, p6, p7⟩ := HPW.out W hW
            simp only at p0 p1 p2 p3 p4 p5 p6 p7
            simp [flowNeeds, Region.binds] at hn
            simp only [flowAct, zwc, zwn]
            try simp only [hn]
            go_wp2_with (fail)
            exact ⟨rfl, _, rfl, Below.refl _ _, rfl⟩
          · intro xs W hW hn
            simp [flowNeeds, Region.binds] at hn
            simp only [flowAct, zwc, zwn]
            simp only [hn]
            go_wp2_with (go_at_call 93; (with_reducible refine (HC.out _).mono ?_); rintro e9 w9 ⟨rfl, hb9⟩)
            exact ⟨rfl, _, rfl, hb9, rfl⟩
          · intro xs W hW hn
            simp [flowNeeds, Region.binds] at hn
            simp only [flowAct, zwc, zwn]
            try simp only [hn]
            go_wp2_with (fail)
            exact ⟨rfl, _, rfl, Below.refl _ _, rfl⟩
          · intro xs W hW hn
            simp [flowNeeds, Region.binds] at hn
            simp only [flowAct, zwc, zwn]
            try simp only [hn]
            go_wp2_with (fail)
            exact ⟨rfl, _, rfl, Below.refl _ _, rfl⟩
          · intro xs W hW hn
            simp [flowNeeds, Region.binds] at hn
            simp only [flowAct, zwc, zwn]
            try simp only [hn]
            go_wp2_with (fail)
            exact ⟨rfl, _, rfl, Below.refl _ _, rfl⟩
          · intro xs W hW hn
            simp [flowNeeds, Region.binds] at hn
            simp only [flowAct, zwc, zwn]
            try simp only [hn]
            go_wp2_with (fail)
            exact ⟨rfl, _, rfl, Below.refl _ _, rfl⟩
          · intro xs W hW hn
            simp [flowNeeds, Region.binds] at hn
            simp only [flowAct, zwc, zwn]
            try simp only [hn]
            go_wp2_with (fail)
            exact ⟨rfl, _, rfl, Below.refl _ _, rfl⟩
        · intro xs W hW hall
          simp only [flowAll, and_true, Nat.zero_add, Nat.reduceAdd] at hall
          obtain ⟨-,-,-,-,-,-,-,-,-,-,-,-,-,-, e14, e15⟩ := hall
          simp only [flowAct, zwc, zwn]
          simp only [e14, e15]
          have HB5 := Lib.hid (HB.out.trans (hW.mono HB.out.size))
          have HR5 := Lib.hid ((hW.block _ (Array.getElem?_eq_some_iff.1 HR.out).1).trans HR.out)
          have HE5 := Lib.hid ((hW.block _ (Array.getElem?_eq_some_iff.1 HE.out).1).trans HE.out)
          have HV5 := Lib.hid ((hW.block _ (Array.getElem?_eq_some_iff.1 HV.out).1).trans HV.out)
          have HO5 := Lib.hid (HO.out.kept hW)
          clear HB HR HE HV HO hW HGW HPW HRB
          cases C2 with
          | false =>
            have HST2 := Lib.hid (HFN.out rfl)
            go_wp2
            go_roundw
            case rel => exact ⟨i + 1, .slice a9 Z.length c9, by omega, by go_num, by rw [HST2.out, HZ.out]; exact HO5.out, HB5.out, HR5.out, HE5.out, HV5.out⟩
            case measure => simp [intOf]; omega
          | true =>
            have HST2 := Lib.hid (HFY.out rfl)
            obtain ⟨q0, q1, -⟩ := view_cells HV5.out
            have hbs := HB5.out.size
            go_wp2_with (at_builtin; refine wpList_append_fld rfl _ _ rfl (v := .slice a9 Z.length c9) rfl HO5.out C1 HTC.out.symm rfl (by have := HNL.out; omega) hbs ?_; intro g' cap' w' ho' hg'; have hr1' := heap_grown ((Below.heap_alloc W (.cells #[.int .i64 (i : Int), .string tc] 96) G0 (Array.getElem?_eq_some_iff.1 HV5.out).1).trans HV5.out) hg' (own_ne HV5.out (by decide) HO5.out); obtain ⟨s0, s1, sf⟩ := view_cells hr1')
            have hbw := ((HB5.out.alloc hbs (.cells #[.int .i64 (i : Int), .string tc] 96)).grown hg' (by simp; omega) (fun k e => (World.ownsRow.lt HO5.out k e).1))
            have hr0' := heap_grown ((Below.heap_alloc W (.cells #[.int .i64 (i : Int), .string tc] 96) B (Array.getElem?_eq_some_iff.1 HR5.out).1).trans HR5.out) hg' (own_ne HR5.out (by decide) HO5.out)
            have he0' := heap_grown ((Below.heap_alloc W (.cells #[.int .i64 (i : Int), .string tc] 96) (B + 1) (Array.getElem?_eq_some_iff.1 HE5.out).1).trans HE5.out) hg' (own_ne HE5.out (by decide) HO5.out)
            have hlt2 := HLT.out
            refine ⟨⟨i + 1, _, by omega, by go_num, ?_, hbw.setCell (p := ⟨G0, 1, none⟩) (by have := HBe.out; simp; omega) _, (Below.heap_setCell _ ⟨G0, 1, none⟩ _ B (by simp; omega)).trans hr0', (Below.heap_setCell _ ⟨G0, 1, none⟩ _ (B + 1) (by simp; omega)).trans he0', (heap_setCell_same _ G0 1 _ _ _ hr1').trans rfl⟩, ?_⟩
            · rw [HST2.out, HZ.out]; exact own_set hr1' (by decide) ho'
            · simp [intOf]; omega
      · obtain rfl : i = m := by omega
        clear hB hr he hv ho
        obtain ⟨q0, q1, -⟩ := view_cells HV.out
        obtain ⟨z0, z1, zf⟩ := view_cells HE.out
        have HW := Lib.hid (fun (k0 : ByteArray) (u : Value) => (HB.out.setCell (p := ⟨B + 1, 0, none⟩) (by have := HBe.out; simp; omega) (.string k0)).setCell (p := ⟨B + 1, 1, none⟩) (by have := HBe.out; simp; omega) u)
        by_cases hz : Z.length = 0
        · have hzi : (((Z.length : Nat) : Int) == 0) = true := by rw [hz]; rfl
          have hzj : ((Z.length : Nat) : Int) = 0 := by omega
          have HRR := Lib.hid (H1.out (by rw [hgl, HZ.out]; exact hz))
          clear hz
          go_wp2
          refine bodyPost_ret (res_cell_tmp rfl _ _ (B + 1) 80 _ (0, 0) _ (.bool false) rfl rfl (view_set HE.out ⟨#[]⟩ (.slice none 0 0)) Try.underlying80 rfl (by kernel_rfl)) rfl ?_
          rw [HRR.out]
          exact ⟨_, rfl, OwnF.nil _ _, HW.out _ _⟩
        · have hzi : (((Z.length : Nat) : Int) == 0) = false := by rw [beq_eq_false_iff_ne]; omega
          have hzj : ¬ ((Z.length : Nat) : Int) = 0 := by omega
          have HRR := Lib.hid (H2.out (by first | rfl | trivial) (by rw [hgl, HZ.out]; exact hz))
          clear hz
          go_wp2
          refine bodyPost_ret (res_cell_tmp rfl _ _ (B + 1) 80 _ (0, 0) _ (.bool true) rfl rfl (view_set HE.out tk (.slice a9 Z.length c9)) Try.underlying80 rfl (by kernel_rfl)) rfl ?_
          rw [HRR.out]
          refine ⟨_, by rw [HTK.out], ?_, HW.out _ _⟩
          show OwnF _ _ _ (fieldsN gs cs gs.length)
          rw [hgl, HZ.out]
          exact own_set (i := 1) (show (wr.setCell ⟨B + 1, 0, none⟩ (.string tk)).heap[B + 1]? = _ from (heap_setCell_same _ _ 0 _ _ _ HE.out).trans rfl) (by decide) (own_set (i := 0) HE.out (by decide) HO.out)
  · have h0n : (R != 0) = true := by simpa using h0
    have HRR := Lib.hid (H0.out h0)
    clear h0
    go_wp2_with (go_at_call 63; (with_reducible refine (HGD.out _ HB1.out).mono ?_); rintro e9 w2 ⟨rfl, hb2⟩; have he2 := (hb2.block _ (Array.getElem?_eq_some_iff.1 HE1.out).1).trans HE1.out; have HB2 := Lib.hid (HB1.out.trans (hb2.mono HB1.out.size)); have HE2 := Lib.hid he2; obtain ⟨z0, z1, zf⟩ := view_cells he2; clear hb2 he2)
    refine bodyPost_ret (res_cell_tmp rfl _ _ (B + 1) 80 _ (0, 0) _ (.bool false) rfl rfl (view_set HE2.out ⟨#[]⟩ (.slice none 0 0)) Try.underlying80 rfl (by kernel_rfl)) rfl ?_
    rw [HRR.out]
    exact ⟨_, rfl, OwnF.nil _ _, (HB2.out.setCell (p := ⟨B + 1, 0, none⟩) (by have := HBe.out; simp; omega) _).setCell (p := ⟨B + 1, 1, none⟩) (by have := HBe.out; simp; omega) _⟩
end Go.Proofs.Ytidbjmkfmfojdaa
end

section
namespace Go.Proofs.Ytidbjmkfmfojdaa
open Go.RowKit Go Go.Sort
set_option linter.unusedVariables false
set_option maxRecDepth 20000

theorem fld_eqIn (p : Int) (s : List UInt8) (W : World) : (Op.equalIn 10000 96 (.agg #[.int .i64 p, .string (text s)]) (.agg #[.int .i64 p, .string (text s)])).run Try.prog W = .ok true W := by
  rw [run_equalIn_struct W 9999 _ _ _ Try.underlying96 (by kernel_rfl)]
  obtain ⟨f0, f1, hf, h0, h1, t0, t1, n0, n1⟩ : ∃ f0 f1, (Try.prog.fieldsOf 96).toList = [f0, f1] ∧ f0.offset = 0 ∧ f1.offset = 1 ∧ f0.type = 3 ∧ f1.type = 9 ∧ f0.name ≠ "_" ∧ f1.name ≠ "_" := ⟨_, _, rfl, rfl, rfl, rfl, rfl, by decide, by decide⟩
  rw [hf]
  have p0 := run_part_plain (P := Try.prog) (e := 3) W (by kernel_rfl) (xs := #[.int .i64 p, .string (text s)]) (off := 0) rfl
  have p1 := run_part_plain (P := Try.prog) (e := 9) W (by kernel_rfl) (xs := #[.int .i64 p, .string (text s)]) (off := 1) rfl
  have he := text_same s s
  simp [Op.eqFields, n0, n1, h0, h1, t0, t1, p0, p1, run_equalIn_string W 9998 9 _ _ Try.underlying9, run_equalIn_int W 9998 3 .i64 .i64 _ _ Try.underlying3, Sem.run_bind, Result.andThen_ok]
theorem fld_neb (p : Int) (s : List UInt8) (W : World) : (binOp .neq 96 (.agg #[.int .i64 p, .string (text s)]) (.agg #[.int .i64 p, .string (text s)])).run Try.prog W = .ok (.bool false) W := by
  rw [run_neq_struct, fld_eqIn]; rfl
theorem fld_eqg (op : BinOp) (x y : Operand) (xs ys : Array Value) (W : World) : (eqGuard op 96 x y (.agg xs) (.agg ys)).run Try.prog W = .ok () W := run_eqGuard_agg W op _ x y xs ys (by kernel_rfl)

set_option maxRecDepth 100000 in
set_option maxHeartbeats 3200000 in
theorem rsameview_c {w : World} {x x2 : Option Addr} {m cap cap2 : Nat} {fs : List Fld} (hl : Flds w x m cap fs) (hl2 : Flds w x2 m cap2 fs) (key : ByteArray) :
    Calls Try.prog 40 #[.agg #[.string key, .slice x m cap], .agg #[.string key, .slice x2 m cap2]] w (Tells (.bool true) w) := by
  have hll := hl.len
  have hle := hl.le
  have hmax := hl.max
  have hle2 := hl2.le
  have hmax2 := hl2.max
  have HL := Lib.hid hl
  have HL2 := Lib.hid hl2
  have hkk : (key.toList == key.toList) = true := by simp
  have hb := (alloc_below w (.cells #[.string key, .slice x m cap] 80)).alloc (by simp) (.cells #[.string key, .slice x2 m cap2] 80)
  have hr : ((w.alloc (.cells #[.string key, .slice x m cap] 80)).alloc (.cells #[.string key, .slice x2 m cap2] 80)).heap[w.heap.size]? = some (.cells #[.string key, .slice x m cap] 80 (0, 0)) := (Below.heap_alloc _ _ _ (by simp)).trans (heap_alloc_new w _)
  have hr2 := heap_alloc_new (w.alloc (.cells #[.string key, .slice x m cap] 80)) (.cells #[.string key, .slice x2 m cap2] 80)
  rw [World.size_alloc] at hr2
  clear hl hl2
  go_enter Try.func40, Try.ntmps40
  go_upto_region 1 with (fail)
  obtain ⟨B, hB⟩ : ∃ q, w.heap.size = q := ⟨_, rfl⟩
  have HBe := Lib.hid hB
  rw [hB] at hr hr2 ⊢
  clear hB
  generalize (w.alloc (.cells #[.string key, .slice x m cap] 80)).alloc (.cells #[.string key, .slice x2 m cap2] 80) = W1 at *
  have HR1 := Lib.hid hr
  have HR2 := Lib.hid hr2
  have HB1 := Lib.hid hb
  obtain ⟨r0, r1, -⟩ := view_cells hr
  obtain ⟨s0, s1, -⟩ := view_cells hr2
  clear hr hr2 hb
  go_wp2
  clear r0 r1 s0 s1
  go_loopw [5] (fun i wr => ∃ k : Nat, k ≤ m ∧ i = .int .i64 k ∧ Below w.heap.size w wr ∧ wr.heap[B]? = some (.cells #[.string key, .slice x m cap] 80 (0, 0)) ∧ wr.heap[B + 1]? = some (.cells #[.string key, .slice x2 m cap2] 80 (0, 0))) (fun i _ => m - (intOf i).toNat)
  case atStart => exact ⟨0, by omega, rfl, HB1.out, HR1.out, HR2.out⟩
  case round =>
    clear HB1 HR1 HR2
    obtain ⟨i, hk, rfl, hB, hr, hr2⟩ := hrel
    obtain ⟨-, r1, -⟩ := view_cells hr
    have HB := Lib.hid hB
    have HR := Lib.hid hr
    have HR2 := Lib.hid hr2
    by_cases hlt : i < m
    · have hki : (i : Int) < (m : Int) := by omega
      have hki1 : (i : Int) < (cap : Int) := by omega
      have hki2 : (i : Int) < (cap2 : Int) := by omega
      obtain ⟨bk, off, rfl, hat⟩ := HL.out.at hlt
      obtain ⟨bk2, off2, rfl, hat2⟩ := HL2.out.at hlt
      obtain ⟨⟨p, s⟩, hck⟩ : ∃ y, fs.getD i (0, []) = y := ⟨_, rfl⟩
      rw [hck] at hat hat2
      have HQ := Lib.hid (fld_neb p s)
      have HPW := Lib.hid (fun W (h : Below wr.heap.size wr W) => hat W (hB.trans (h.mono hB.size)))
      have HQW := Lib.hid (fun W (h : Below wr.heap.size wr W) => hat2 W (hB.trans (h.mono hB.size)))
      have HRB := Lib.hid (fun W (h : Below wr.heap.size wr W) => view_cells ((h.block _ (Array.getElem?_eq_some_iff.1 hr).1).trans hr))
      have HRC := Lib.hid (fun W (h : Below wr.heap.size wr W) => view_cells ((h.block _ (Array.getElem?_eq_some_iff.1 hr2).1).trans hr2))
      clear hck hB hr hr2 hat hat2
      go_upto_region 6 with (fail)
      clear r1
      refine wp_region_flow [none,none,none,none,none,none,none,none,none,none,none,none,none,none,none,none,none,none,none,none,none,none,none,none,none,none,none, some 0, some 1, some 2, some 3, some 4, some 5, some 6, some 7, some 8, some 9, some 10] (fun i => [u27, u28, u29, u30, u31, u32, u33, u34, u35, u36, u37].getD i undef) [(fun v _ => v = .pointer (some ⟨B, 1, none⟩)), (fun v _ => v = .slice (some ⟨bk, off, none⟩) m cap), (fun v _ => v = .int .i64 (i : Int)), (fun v _ => v = .pointer (some ⟨bk, off + i * 2, none⟩)), (fun v _ => v = .agg #[.int .i64 p, .string (text s)]), (fun v _ => v = .pointer (some ⟨B + 1, 1, none⟩)), (fun v _ => v = .slice (some ⟨bk2, off2, none⟩) m cap2), (fun v _ => v = .int .i64 (i : Int)), (fun v _ => v = .pointer (some ⟨bk2, off2 + i * 2, none⟩)), (fun v _ => v = .agg #[.int .i64 p, .string (text s)]), (fun v _ => v = .bool false)] (by kernel_rfl) (by kernel_rfl) rfl rfl rfl ?_ ?_ ?_
      · intro g hg v X Y hX hY hv
        simp only [List.mem_cons, List.not_mem_nil, or_false] at hg
        rcases hg with rfl | rfl | rfl | rfl | rfl | rfl | rfl | rfl | rfl | rfl | rfl
        all_goals first
          | exact hv
          | exact hv.kept hY
      · simp only [flowOps, and_true]
        refine ⟨?_,?_,?_,?_,?_,?_,?_,?_,?_,?_,?_⟩
        · intro xs W hW hn
          simp only [flowAct, zwc, zwn]
          go_wp2_with (fail)
          exact ⟨rfl, _, rfl, Below.refl _ _, rfl⟩
        · intro xs W hW hn
          obtain ⟨-, rb1, -⟩ := HRB.out W hW
          simp [flowNeeds, Region.binds] at hn
          simp only [flowAct, zwc, zwn]
          try simp only [hn]
          go_wp2_with (fail)
          exact ⟨rfl, _, rfl, Below.refl _ _, rfl⟩
        · intro xs W hW hn
          simp only [flowAct, zwc, zwn]
          go_wp2_with (fail)
          exact ⟨rfl, _, rfl, Below.refl _ _, rfl⟩
        · intro xs W hW hn
          simp [flowNeeds, Region.binds] at hn
          simp only [flowAct, zwc, zwn]
          try simp only [hn]
          go_wp2_with (fail)
          exact ⟨rfl, _, rfl, Below.refl _ _, rfl⟩
        · intro xs W hW hn
          obtain ⟨p0, p1⟩ := HPW.out W hW
          simp [flowNeeds, Region.binds] at hn
          simp only [flowAct, zwc, zwn]
          try simp only [hn]
          go_wp2_with (fail)
          exact ⟨rfl, _, rfl, Below.refl _ _, rfl⟩
        · intro xs W hW hn
          simp only [flowAct, zwc, zwn]
          go_wp2_with (fail)
          exact ⟨rfl, _, rfl, Below.refl _ _, rfl⟩
        · intro xs W hW hn
          obtain ⟨-, rb1, -⟩ := HRC.out W hW
          simp [flowNeeds, Region.binds] at hn
          simp only [flowAct, zwc, zwn]
          try simp only [hn]
          go_wp2_with (fail)
          exact ⟨rfl, _, rfl, Below.refl _ _, rfl⟩
        · intro xs W hW hn
          simp only [flowAct, zwc, zwn]
          go_wp2_with (fail)
          exact ⟨rfl, _, rfl, Below.refl _ _, rfl⟩
        · intro xs W hW hn
          simp [flowNeeds, Region.binds] at hn
          simp only [flowAct, zwc, zwn]
          try simp only [hn]
          go_wp2_with (fail)
          exact ⟨rfl, _, rfl, Below.refl _ _, rfl⟩
        · intro xs W hW hn
          obtain ⟨p0, p1⟩ := HQW.out W hW
          simp [flowNeeds, Region.binds] at hn
          simp only [flowAct, zwc, zwn]
          try simp only [hn]
          go_wp2_with (fail)
          exact ⟨rfl, _, rfl, Below.refl _ _, rfl⟩
        · intro xs W hW hn
          simp [flowNeeds, Region.binds] at hn
          have hq := HQ.out
          have hqg := fld_eqg
          simp only [flowAct, zwc, zwn]
          simp only [hn]
          go_wp2_with (fail)
          exact ⟨rfl, _, rfl, Below.refl _ _, rfl⟩
      · intro xs W hW hall
        simp only [flowAll, and_true, Nat.zero_add, Nat.reduceAdd] at hall
        obtain ⟨-,-,-,-,-,-,-,-,-,-, e10⟩ := hall
        simp only [flowAct, zwc, zwn]
        simp only [e10]
        go_wp2
        go_roundw
        case rel => exact ⟨i + 1, by omega, by go_num, HB.out.trans (hW.mono HB.out.size), (hW.block _ (Array.getElem?_eq_some_iff.1 HR.out).1).trans HR.out, (hW.block _ (Array.getElem?_eq_some_iff.1 HR2.out).1).trans HR2.out⟩
        case measure => simp [intOf]; omega
    · obtain rfl : i = m := by omega
      clear hB hr hr2
      go_wp2
      go_ret
      exact ⟨rfl, HB.out⟩
end Go.Proofs.Ytidbjmkfmfojdaa
end

section
namespace Go.Proofs.Ytidbjmkfmfojdaa
open Go.RowKit Go Go.Sort
set_option linter.unusedVariables false
set_option maxRecDepth 20000

theorem OwnS.ins {W : World} {B0 B : Nat} {v : Value} {L : List Rw} (h : OwnS W B0 B v L) : ∃ a cap, v = .slice a L.length cap ∧ RwsIn W B0 a L.length cap L := by
  obtain ⟨a, cap, ev, hl⟩ := h.row.ls (z := Rw.zero) rw_size
  exact ⟨a, cap, ev, hl, h.has⟩
theorem RwsAt.ins {W : World} {a : Option Addr} {m cap : Nat} {L : List Rw} (h : RwsAt W a m cap L) {B : Nat} (hB : W.heap.size ≤ B) : RwsIn W B a m cap L := by
  refine ⟨h.1, fun r hr => ?_⟩
  obtain ⟨j, hj, rfl⟩ := List.getElem_of_mem hr
  obtain ⟨a', c, e, hc⟩ := h.2 j (by have := h.1.len; omega)
  rw [List.getD_eq_getElem?_getD, List.getElem?_eq_getElem hj] at e hc
  refine ⟨a', c, e, hc, fun hp q off ea => .inl ?_⟩
  subst ea
  exact Nat.lt_of_lt_of_le (hc.lt hp) hB
end Go.Proofs.Ytidbjmkfmfojdaa
end

section
namespace Go.Proofs.Ytidbjmkfmfojdaa
open Go.RowKit Go Go.Sort
set_option linter.unusedVariables false
set_option maxRecDepth 20000

theorem m_inv {gs : List Grp} {R : List Rp} (h : mgoodS gs R = 0) : pgoodS gs = 0 ∧ ∀ k, k < R.length → mAt gs R k = 0 := by
  unfold mgoodS at h
  by_cases hp : pgoodS gs = 0
  · refine ⟨hp, fun k hk => ?_⟩
    rw [if_neg (not_not_intro hp)] at h
    cases hf : ((List.range R.length).map (mAt gs R)).find? (fun e => decide (e ≠ 0)) with
    | none =>
      have := List.find?_eq_none.1 hf (mAt gs R k) (List.mem_map.2 ⟨k, List.mem_range.2 hk, rfl⟩)
      simpa using this
    | some e =>
      rw [hf] at h
      have := List.find?_some hf
      simp only [Option.getD_some] at h
      rw [h] at this
      simp at this
  · rw [if_pos hp] at h; exact absurd h hp
theorem asc_of_next {R : List Rp} (h : ∀ i, i + 1 < R.length → Op.bytesLess (R.getD i ([], [])).1 (R.getD (i + 1) ([], [])).1 = true) : KAsc Op.bytesLess R := by
  unfold KAsc
  rw [List.pairwise_iff_getElem]
  have g : ∀ i (hi : i < R.length), R.getD i ([], []) = R[i] := fun i hi => by rw [List.getD_eq_getElem?_getD, List.getElem?_eq_getElem hi]; rfl
  have key : ∀ d i, i + d + 1 < R.length → Op.bytesLess (R.getD i ([], [])).1 (R.getD (i + d + 1) ([], [])).1 = true := by
    intro d
    induction d with
    | zero => exact fun i hi => h i hi
    | succ d ih => exact fun i hi => strictT.tr _ _ _ (ih i (by omega)) (h (i + d + 1) (by omega))
  intro i j hi hj hij
  have := key (j - i - 1) i (by omega)
  rw [show i + (j - i - 1) + 1 = j by omega, g i hi, g j hj] at this
  exact this
theorem next_of_asc {R : List Rp} (h : KAsc Op.bytesLess R) {i : Nat} (hi : i + 1 < R.length) : Op.bytesLess (R.getD i ([], [])).1 (R.getD (i + 1) ([], [])).1 = true := by
  have hp := List.pairwise_iff_getElem.1 h i (i + 1) (by omega) hi (by omega)
  rw [List.getD_eq_getElem?_getD, List.getD_eq_getElem?_getD, List.getElem?_eq_getElem (show i < _ by omega), List.getElem?_eq_getElem hi]
  exact hp
theorem mgood_iff {gs : List Grp} {R : List Rp} : mgoodS gs R = 0 ↔ IsSt gs R := by
  have g : ∀ i (hi : i < R.length), R.getD i ([], []) = R[i] := fun i hi => by rw [List.getD_eq_getElem?_getD, List.getElem?_eq_getElem hi]; rfl
  constructor
  · intro h
    obtain ⟨hp, ha⟩ := m_inv h
    refine ⟨hp, asc_of_next fun i hi => ?_, fun r hr => ?_, fun r hr => ?_⟩
    · exact (mAt_zero.1 (ha (i + 1) hi)).2.2 (by omega)
    · obtain ⟨i, hi, rfl⟩ := List.getElem_of_mem hr
      have := (mAt_zero.1 (ha i hi)).1
      rwa [g i hi] at this
    · obtain ⟨i, hi, rfl⟩ := List.getElem_of_mem hr
      have := (mAt_zero.1 (ha i hi)).2.1
      rwa [g i hi] at this
  · intro h
    refine m_yes h.pol fun i hi => mAt_zero.2 ⟨?_,?_, fun h0 => ?_⟩
    · rw [g i hi]; exact h.good _ (List.getElem_mem hi)
    · rw [g i hi]; exact h.bare _ (List.getElem_mem hi)
    · have := next_of_asc h.asc (i := i - 1) (by omega)
      rwa [show i - 1 + 1 = i by omega] at this
end Go.Proofs.Ytidbjmkfmfojdaa
end

section
namespace Go.Proofs.Ytidbjmkfmfojdaa
open Go.RowKit Go Go.Sort
set_option linter.unusedVariables false
set_option maxRecDepth 20000

/-- append(nil, cs...), cells onto none. -/
theorem wpList_append_cells {w : World} {ops : Array Oper} {rest : List Oper} {o : Oper} {ac : Act} {Q : Exit → Act → World → Prop} (hgd : o.guard = none) (os ox : Operand)
    (ho : o.op = .call { callee := .builtin .append, args := #[os, ox], argTypes := #[28, 28] })
    {base : Nat} (hs : ac.eval os = .slice none 0 0) {x : Option Addr} {m cap : Nat} {cs : List Cl} (hx : ac.eval ox = .slice x m cap) (hl : Cls w x m cap cs) (hm : m ≤ 1000000) (hbase : base ≤ w.heap.size)
    (h : ∀ v' w', OwnC w' base v' cs → w.grownBy w' none → wpList Try.prog ops Q rest (ac.put o.dst v') w') :
    wpList Try.prog ops Q (o :: rest) ac w := by
  obtain ⟨i0, hi, hz0, hz1, hz2⟩ := info_parts Try.infoC
  have hll := hl.len
  rcases hl.src with ⟨hc, h0⟩ | ⟨a, rfl, hsrc⟩
  · have hcs : cs = [] := List.eq_nil_of_length_eq_zero (by omega)
    subst h0 hcs
    refine wpList_plain hgd fun K hK => ?_
    have hsr : Src Try.prog i0.size 28 (.slice x 0 cap) 0 [] w := by
      cases x with
      | none => exact Src.ofNil w Try.underlying28 cap
      | some a => exact Src.ofSlice w Try.underlying28 a 0 cap [] (by simp) (by simp) (by simp)
    have hr := run_append_zero (P := Try.prog) w 28 28 o.type 75 i0 Try.underlying28 hi (.slice x 0 cap) hsr
    unfold Oper.wp execOp
    simp only [ho, resolve, invoke, builtin, Sem.run_bind, Sem.run_pure, Result.andThen_ok, List.map_toArray, List.map_cons, List.map_nil, hs, hx, hr]
    exact hK _ _ (h _ _ (OwnC.nil _ _) (World.grownBy.refl _ _))
  · refine wpList_append_own_wide (P := Try.prog) w hgd os ox 28 ho base 75 i0 _ 8 72 Try.underlying28 hi hz0 hz1 hz2 rfl (by decide) (.slice none 0 0) 0 [] hs (World.ownsRow_nil _ _ _ _)
      a m cap (cCells cs) hx (by rw [cCells_length, hll]) hsrc (cCells_one cs) (by unfold maxLen; omega) (by omega) hbase ?_
    intro v' w' h2 h3 _
    refine h v' w' ?_ h3
    unfold OwnC
    rw [hll]
    simpa using h2

set_option maxRecDepth 100000 in
set_option maxHeartbeats 3200000 in
theorem rcopy_c {w : World} {x : Option Addr} {m cap : Nat} {cs : List Cl} (hl : Cls w x m cap cs) (hm : m ≤ 1000000) (key : ByteArray) :
    Calls Try.prog 45 #[.agg #[.string key, .slice x m cap]] w (fun e w' => ∃ v, e = .returned (.agg #[.string key, v]) ∧ OwnC w' w.heap.size v cs ∧ Below w.heap.size w w') := by
  have hb := (alloc_below w (.cells #[.string key, .slice x m cap] 30)).alloc (by simp) (.cells #[.string ⟨#[]⟩, .slice none 0 0] 30)
  have hr0 : ((w.alloc (.cells #[.string key, .slice x m cap] 30)).alloc (.cells #[.string ⟨#[]⟩, .slice none 0 0] 30)).heap[w.heap.size]? = some (.cells #[.string key, .slice x m cap] 30 (0, 0)) := (Below.heap_alloc _ _ _ (by simp)).trans (heap_alloc_new w _)
  have hr1 := heap_alloc_new (w.alloc (.cells #[.string key, .slice x m cap] 30)) (.cells #[.string ⟨#[]⟩, .slice none 0 0] 30)
  rw [World.size_alloc] at hr1
  have HL := Lib.hid hl
  clear hl
  go_enter Try.func45, Try.ntmps45
  go_upto_region 1 with (fail)
  obtain ⟨B, hB⟩ : ∃ q, w.heap.size = q := ⟨_, rfl⟩
  have HBe := Lib.hid hB
  rw [hB] at hr0 hr1 ⊢
  clear hB
  generalize (w.alloc (.cells #[.string key, .slice x m cap] 30)).alloc (.cells #[.string ⟨#[]⟩, .slice none 0 0] 30) = W1 at *
  obtain ⟨r0, r1, -⟩ := row_cells hr0
  have HR0 := Lib.hid hr0
  have HR1 := Lib.hid hr1
  have HB1 := Lib.hid hb
  clear hr0 hr1 hb
  go_upto_region 2 with (fail)
  have hal := alloc_below W1 (.cells #[.string key, .slice none 0 0] 30)
  have hn := heap_alloc_new W1 (.cells #[.string key, .slice none 0 0] 30)
  have HB2 := Lib.hid (HB1.out.trans (hal.mono HB1.out.size))
  have hr0 := heap_below HR0.out hal
  have hr1 := heap_below HR1.out hal
  have hql : B + 1 < W1.heap.size := (Array.getElem?_eq_some_iff.1 HR1.out).1
  obtain ⟨q, hq⟩ : ∃ q, W1.heap.size = q := ⟨_, rfl⟩
  rw [hq] at hn hql ⊢
  generalize W1.alloc (.cells #[.string key, .slice none 0 0] 30) = W2 at *
  clear hal hq HR0 HR1 HB1 r0 r1
  obtain ⟨r0, r1, -⟩ := row_cells hr0
  obtain ⟨n0, n1, nf⟩ := row_cells hn
  have HN := Lib.hid hn
  have HR1 := Lib.hid hr1
  have HQL := Lib.hid hql
  have HLW := Lib.hid (HL.out.below HB2.out)
  clear hn hr1 hql
  go_upto_region 3 with (at_builtin; refine wpList_append_cells rfl (.tmp 8) (.tmp 10) rfl rfl rfl HLW.out hm HB2.out.size ?_; intro v3 w3 ho3 hg3; have HN3 := Lib.hid (heap_grown HN.out hg3 (by simp)); obtain ⟨m0, m1, mf⟩ := row_cells HN3.out; have HO3 := Lib.hid ho3; have HB3 := Lib.hid (HB2.out.grown hg3 HB2.out.size (fun k e => by cases e)); have HR3 := Lib.hid (heap_grown HR1.out hg3 (by simp)); obtain ⟨a3, c3, rfl, -⟩ := ho3.cls; clear hg3 ho3)
  clear HN HR1 HLW HB2 HL r0 r1 n0 n1 nf m0 m1 mf
  have hqw := HQL.out
  have hn4 : (w3.setCell ⟨q, 1, none⟩ (.slice a3 cs.length c3)).heap[q]? = some (.cells #[.string key, .slice a3 cs.length c3] 30 (0, 0)) := (heap_setCell_same w3 q 1 _ _ _ HN3.out).trans rfl
  have hr4 : (w3.setCell ⟨q, 1, none⟩ (.slice a3 cs.length c3)).heap[B + 1]? = some (.cells #[.string ⟨#[]⟩, .slice none 0 0] 30 (0, 0)) := (Below.heap_setCell w3 ⟨q, 1, none⟩ _ (B + 1) (by simp; omega)).trans HR3.out
  have ho4 : OwnC (w3.setCell ⟨q, 1, none⟩ (.slice a3 cs.length c3)) w.heap.size (.slice a3 cs.length c3) cs := own_set HN3.out (by decide) HO3.out
  have HB4 := Lib.hid (HB3.out.setCell (p := ⟨q, 1, none⟩) (by have := HBe.out; simp; omega) (.slice a3 cs.length c3))
  generalize w3.setCell ⟨q, 1, none⟩ (.slice a3 cs.length c3) = W4 at *
  obtain ⟨n0, n1, -⟩ := row_cells hn4
  obtain ⟨z0, z1, zf⟩ := row_cells hr4
  have HS := Lib.hid (row_set hr4 key (.slice a3 cs.length c3))
  have HR4 := Lib.hid hr4
  have HO4 := Lib.hid ho4
  clear hn4 hr4 ho4 HN3 HR3 HO3 HB3 hqw HQL
  go_wp2
  refine bodyPost_ret (results_cell_row rfl _ _ (B + 1) 30 _ (0, 0) _ rfl HS.out Try.underlying30 rfl (by kernel_rfl)) rfl ⟨_, rfl, ?_, (HB4.out.setCell (p := ⟨B + 1, 0, none⟩) (by have := HBe.out; simp; omega) _).setCell (p := ⟨B + 1, 1, none⟩) (by have := HBe.out; simp; omega) _⟩
  exact own_set (i := 1) (show (W4.setCell ⟨B + 1, 0, none⟩ (.string key)).heap[B + 1]? = _ from (heap_setCell_same _ _ 0 _ _ _ HR4.out).trans rfl) (by decide) (own_set (i := 0) HR4.out (by decide) HO4.out)
end Go.Proofs.Ytidbjmkfmfojdaa
end

section
namespace Go.Proofs.Ytidbjmkfmfojdaa
open Go.RowKit Go Go.Sort
set_option linter.unusedVariables false
set_option maxRecDepth 20000

theorem look_first (k : List UInt8) : ∀ (L : List Rw) (q : Nat), q < L.length → (∀ p, p < q → (L.getD p Rw.zero).k ≠ k) → (L.getD q Rw.zero).k = k → look (L.map Rw.pr) k = some (L.getD q Rw.zero).cs
  | [], q, h, _, _ => by simp at h
  | r :: L, 0, _, _, e => by
    show look (r.pr :: L.map Rw.pr) k = _
    rw [look_cons, if_pos (show r.pr.1 = k from e)]; rfl
  | r :: L, q + 1, h, hn, e => by
    show look (r.pr :: L.map Rw.pr) k = _
    rw [look_cons, if_neg (show ¬ r.pr.1 = k from hn 0 (by omega)), look_first k L q (by simpa using h) (fun p hp => hn (p + 1) (by omega)) e]; rfl
theorem look_never (k : List UInt8) (L : List Rw) (h : ∀ p, p < L.length → (L.getD p Rw.zero).k ≠ k) : look (L.map Rw.pr) k = none := by
  rw [look_none_iff]
  intro r hr
  obtain ⟨x, hx, rfl⟩ := List.mem_map.1 hr
  obtain ⟨i, hi, rfl⟩ := List.getElem_of_mem hx
  have := h i hi
  rw [List.getD_eq_getElem?_getD, List.getElem?_eq_getElem hi] at this
  exact this
/-- What Get tells of a row. -/
def GotPost (r : Option (List Cl)) (t : ByteArray) (w : World) (e : Ending) (w' : World) : Prop :=
  (∃ cs a c, r = some cs ∧ e = .returned (.tuple #[.agg #[.string t, .slice a cs.length c], .bool true]) ∧ OwnC w' w.heap.size (.slice a cs.length c) cs ∧ Below w.heap.size w w') ∨
  (r = none ∧ e = .returned (.tuple #[.agg #[.string ⟨#[]⟩, .slice none 0 0], .bool false]) ∧ Below w.heap.size w w')

set_option maxRecDepth 100000 in
set_option maxHeartbeats 6400000 in
theorem rget11_c {w : World} {x : Option Addr} {m cap B0 : Nat} {L : List Rw} (hl : RwsIn w B0 x m cap L) (hz : ∀ r ∈ L, r.cs.length ≤ 1000000) (k : List UInt8) :
    Calls Try.prog 21 #[.slice x m cap, .string (text k)] w (GotPost (look (L.map Rw.pr) k) (text k) w) := by
  have hll := hl.1.len
  have hle := hl.1.le
  have hmax := hl.1.max
  obtain ⟨RV, hRV⟩ : ∃ z, look (L.map Rw.pr) k = z := ⟨_, rfl⟩
  rw [hRV]
  have HF := Lib.hid (fun q (hq : q < m) (h1 : ∀ p, p < q → (L.getD p Rw.zero).k ≠ k) (h2 : (L.getD q Rw.zero).k = k) => hRV.symm.trans (look_first k L q (by omega) h1 h2))
  have HNV := Lib.hid (fun (h : ∀ p, p < m → (L.getD p Rw.zero).k ≠ k) => hRV.symm.trans (look_never k L (fun p hp => h p (by omega))))
  have HL := Lib.hid hl
  have HZ0 := Lib.hid (fun q (hq : q < m) => hz _ (rw_mem (L := L) (k := q) (by omega)))
  obtain ⟨tk, htk⟩ : ∃ z, text k = z := ⟨_, rfl⟩
  rw [htk]
  have HTK := Lib.hid htk
  have hb := alloc_below w (.cells #[.string ⟨#[]⟩, .slice none 0 0] 30)
  have hr := heap_alloc_new w (.cells #[.string ⟨#[]⟩, .slice none 0 0] 30)
  have hsz : (w.alloc (.cells #[.string ⟨#[]⟩, .slice none 0 0] 30)).heap.size = w.heap.size + 1 := by simp
  clear hRV hl hz htk hll
  go_enter Try.func21, Try.ntmps21
  go_upto_region 1 with (fail)
  obtain ⟨B, hB⟩ : ∃ q, w.heap.size = q := ⟨_, rfl⟩
  have HBe := Lib.hid hB
  rw [hB] at hr hsz ⊢
  clear hB
  generalize w.alloc (.cells #[.string ⟨#[]⟩, .slice none 0 0] 30) = W1 at *
  have HSZ := Lib.hid hsz
  have HB1 := Lib.hid hb
  have HR1 := Lib.hid hr
  clear hb hr hsz
  go_wp2
  go_loopw [6] (fun j wr => ∃ q : Nat, q ≤ m ∧ j = .int .i64 (q : Int) ∧ (∀ p, p < q → (L.getD p Rw.zero).k ≠ k) ∧ Below W1.heap.size W1 wr) (fun j _ => m - (intOf j).toNat)
  case atStart => exact ⟨0, by omega, rfl, fun p hp => absurd hp (by omega), Below.refl _ _⟩
  case round =>
    obtain ⟨q, hq, rfl, hne, hbx⟩ := hrel
    have HNEV := Lib.hid hne
    have HBx := Lib.hid hbx
    have hz2 := heap_below HR1.out hbx
    clear hne hbx
    by_cases hlq : q < m
    · have hqi : (q : Int) < (m : Int) := by omega
      have hqc : (q : Int) < (cap : Int) := by omega
      obtain ⟨bo, offo, ao, no, co, rfl, eu, eno, hco, hro, hat⟩ := HL.out.place hlq
      have HF2 := Lib.hid (fun h2 => HF.out q hlq HNEV.out h2)
      have hnl := HZ0.out q hlq
      have HNX := Lib.hid (fun (h2 : (L.getD q Rw.zero).k ≠ k) p (hp : p < q + 1) => (show (L.getD p Rw.zero).k ≠ k from if e : p = q then e ▸ h2 else HNEV.out p (by omega)))
      obtain ⟨y, hy⟩ : ∃ y, L.getD q Rw.zero = y := ⟨_, rfl⟩
      rw [hy] at hat eu eno hro hco HF2 HNX hnl
      obtain ⟨ko, uo, cso⟩ := y
      simp only at hat eu eno hco hnl
      subst eu
      obtain ⟨to, hto⟩ : ∃ z, text ko = z := ⟨_, rfl⟩
      rw [hto] at hat
      have hte := text_eqb ko k
      rw [hto, HTK.out] at hte
      have HCP := Lib.hid (rcopy_c (hco.below (HB1.out.trans (HBx.out.mono HB1.out.size))) (by omega) to)
      have HTO := Lib.hid hto
      obtain ⟨o0, o1⟩ := hat _ (HB1.out.trans (HBx.out.mono HB1.out.size))
      obtain ⟨z0, z1, zf⟩ := row_cells hz2
      have HZ2 := Lib.hid hz2
      have HCO := Lib.hid hro
      clear hat hy hto hro hco hz2 eno hnl
      by_cases he : ko = k
      · subst he
        have hE : (ko == ko) = true := by simp
        rw [hE] at hte
        have HRR := Lib.hid (HF2.out rfl)
        clear HF2 HNX HNV HF
        go_wp2_with (go_at_call 45; (with_reducible refine HCP.out.mono ?_); rintro e9 w9 ⟨v9, rfl, ho9, hb9⟩; obtain ⟨a9, c9, rfl, -⟩ := ho9.cls; have hz9 := heap_below HZ2.out hb9; have HO9 := Lib.hid ho9; have HB9 := Lib.hid hb9; have HZ9 := Lib.hid hz9; clear ho9 hb9 z0 z1 zf; obtain ⟨z0, z1, zf⟩ := row_cells hz9; clear hz9)
        refine bodyPost_ret (res_cell_tmp rfl _ _ B 30 _ (0, 0) _ (.bool true) rfl rfl (row_set HZ9.out to (.slice a9 cso.length c9)) Try.underlying30 rfl (by kernel_rfl)) rfl ?_
        refine .inl ⟨_, _, _, HRR.out, by rw [← HTO.out, HTK.out], ?_,?_⟩
        · exact own_set (i := 1) (show (w9.setCell ⟨B, 0, none⟩ (.string to)).heap[B]? = _ from (heap_setCell_same _ _ 0 _ _ _ HZ9.out).trans rfl) (by decide) (own_set (i := 0) HZ9.out (by decide) (HO9.out.mono (Nat.le_trans HB1.out.size HBx.out.size)))
        · exact ((((HB1.out.trans (HBx.out.mono HB1.out.size)).trans (HB9.out.mono (Nat.le_trans HB1.out.size HBx.out.size))).setCell (p := ⟨B, 0, none⟩) (by have := HBe.out; simp; omega) _).setCell (p := ⟨B, 1, none⟩) (by have := HBe.out; simp; omega) _)
      · have hE : (ko == k) = false := by simp [he]
        rw [hE] at hte
        have HNN := Lib.hid (HNX.out he)
        clear HF2 HNX HCP
        go_wp2
        go_roundw
        case rel => exact ⟨q + 1, by omega, by go_num, HNN.out, HBx.out⟩
        case measure => simp [intOf]; omega
    · obtain rfl : m = q := by omega
      have HRR := Lib.hid (HNV.out HNEV.out)
      obtain ⟨z0, z1, zf⟩ := row_cells hz2
      have HZ2 := Lib.hid hz2
      clear hz2 HNV HF
      go_wp2
      refine bodyPost_ret (res_cell_tmp rfl _ _ B 30 _ (0, 0) _ (.bool false) rfl rfl (row_set HZ2.out ⟨#[]⟩ (.slice none 0 0)) Try.underlying30 rfl (by kernel_rfl)) rfl ?_
      exact .inr ⟨HRR.out, rfl, (((HB1.out.trans (HBx.out.mono HB1.out.size)).setCell (p := ⟨B, 0, none⟩) (by have := HBe.out; simp; omega) _).setCell (p := ⟨B, 1, none⟩) (by have := HBe.out; simp; omega) _)⟩
end Go.Proofs.Ytidbjmkfmfojdaa
end

section
namespace Go.Proofs.Ytidbjmkfmfojdaa
open Go.RowKit Go Go.Sort
set_option linter.unusedVariables false
set_option maxRecDepth 20000

/-- What is asked of a write that a later one knew of. -/
def OldK (n a b s : Int) (k : Key) : Prop := k = Cl.zero.key ∨ (k.1.1 < n ∧ k.2.2.2.1 ≤ a ∧ k.2.2.2.2 ≤ b ∧ (s = 1 → k.2.2.2.1 < a) ∧ (s = 2 → k.2.2.2.2 < b))
structure OldC (n a b s : Int) (c : Cl) : Prop where
  key : OldK n a b s c.key
  d : c.d ≤ a
  e : c.e ≤ b
section
variable {n a b s : Int}
theorem OldC.zero (ha : 0 ≤ a) (hb : 0 ≤ b) : OldC n a b s Cl.zero := ⟨.inl rfl, ha, hb⟩
theorem OldC.two {x y : Cl} (ha : 0 ≤ a) (hb : 0 ≤ b) (hx : OldC n a b s x) (hy : OldC n a b s y) : OldC n a b s (twoS x y) := by
  refine ⟨?_,?_,?_⟩
  · rw [two_key]; split
    · exact hy.key
    · exact hx.key
  · rw [two_d]; have := hx.d; have := hy.d; omega
  · rw [two_e]; have := hx.e; have := hy.e; omega
end
theorem fm_look {f : Rp → Option Vp} {key : List UInt8} : ∀ {R : List Rp} {u : List Cl}, KAsc Op.bytesLess R → look R key = some u → (∀ r ∈ R, r.1 ≠ key → f r = none) → R.filterMap f = (f (key, u)).toList
  | [], u, _, hl, _ => by cases hl
  | r :: R, u, ha, hl, hf => by
    unfold KAsc at ha
    rw [List.pairwise_cons] at ha
    rw [look_cons] at hl
    by_cases e : r.1 = key
    · rw [if_pos e] at hl
      cases hl
      have h0 : R.filterMap f = [] := List.filterMap_eq_nil_iff.2 fun x hx => hf x (List.mem_cons_of_mem _ hx) fun e2 => by
        have := ha.1 x hx
        rw [e, e2, strictT.irr] at this
        cases this
      have h1 : (key, r.2) = r := by rw [← e]
      rw [List.filterMap_cons, h0, h1]
      cases f r <;> rfl
    · rw [if_neg e] at hl
      rw [List.filterMap_cons, hf r (List.mem_cons_self ..) e]
      exact fm_look ha.2 hl fun x hx => hf x (List.mem_cons_of_mem _ hx)
/-- What Get tells of a row that is there. -/
theorem get_vws {gs : List Grp} {R : List Rp} {key : List UInt8} {u : List Cl} (hst : IsSt gs R) (hl : look R key = some u) : vwsS gs (fun k => k == key) R = if fieldsN gs u gs.length = [] then [] else [(key, fieldsN gs u gs.length)] := by
  rw [vws_ok (mgood_iff.2 hst), fm_look hst.asc hl fun r hr hne => by
    obtain ⟨k, cs⟩ := r
    exact vw_no (by simpa using hne)]
  have hg := hst.good _ (look_mem hl)
  by_cases e : fieldsN gs u gs.length = []
  · rw [if_pos e, vw_none (by simp) (by rw [view_none (by rw [e]; rfl)])]
    rfl
  · have h2 : (fieldsN gs u gs.length).length ≠ 0 := fun h => e (List.length_eq_zero_iff.1 h)
    rw [if_neg e, vw_some (by simp) (by rw [view_some hg h2]), view_some hg h2]
    rfl
end Go.Proofs.Ytidbjmkfmfojdaa
end

section
namespace Go.Proofs.Ytidbjmkfmfojdaa
open Go.RowKit Go Go.Sort Go.Deep
set_option linter.unusedVariables false
set_option maxRecDepth 20000

/-- Changes of a call's own, whose writes lie wherever. -/
def OwnCg (W : World) (B : Nat) (v : Value) (L : List Cg) : Prop := OwnL 7 91 Cg.arr W B v L
theorem OwnCg.ls {W : World} {B : Nat} {v : Value} {L : List Cg} (h : OwnCg W B v L) : ∃ a cap, v = .slice a L.length cap ∧ Ls 7 Cg.arr Cg.zero W a L.length cap L := OwnL.ls cg_size h
end Go.Proofs.Ytidbjmkfmfojdaa
end

section
namespace Go.Proofs.Ytidbjmkfmfojdaa
open Go.RowKit Go Go.Sort
set_option linter.unusedVariables false
set_option maxRecDepth 20000

/-- What is to be seen of the row of a key, its key, and whether something is. -/
def mgetS (gs : List Grp) (R : List Rp) (key : List UInt8) : List UInt8 × List Fld × Bool :=
  if mgoodS gs R = 0 then (match look R key with | some u => viewS gs key u | none => ([], [], false)) else ([], [], false)
theorem mget_bad {gs : List Grp} {R : List Rp} {key : List UInt8} (h : ¬ mgoodS gs R = 0) : mgetS gs R key = ([], [], false) := by unfold mgetS; rw [if_neg h]
theorem mget_none {gs : List Grp} {R : List Rp} {key : List UInt8} (h : look R key = none) : mgetS gs R key = ([], [], false) := by
  unfold mgetS
  split
  · rw [h]
  · rfl
theorem mget_some {gs : List Grp} {R : List Rp} {key : List UInt8} {u : List Cl} (h : mgoodS gs R = 0) (h2 : look R key = some u) : mgetS gs R key = viewS gs key u := by unfold mgetS; rw [if_pos h, h2]
def GetSPost (r : List UInt8 × List Fld × Bool) (w : World) (e : Ending) (w' : World) : Prop := ∃ a c, e = .returned (.tuple #[.agg #[.string (text r.1), .slice a r.2.1.length c], .bool r.2.2]) ∧ FldV r.2.1 (.slice a r.2.1.length c) w' ∧ Below w.heap.size w w'
theorem get_post {gs : List Grp} {R : List Rp} {key : List UInt8} {w w' : World} {e : Ending} (h : GetVPost (vwsS gs (fun k => k == key) R) w e w') : GetSPost (mgetS gs R key) w e w' := by
  obtain ⟨k, fs, fv, b, rfl, hf, hv, hb⟩ := h
  have key' : (k, fs, b) = mgetS gs R key := by
    by_cases hg : mgoodS gs R = 0
    · cases hl : look R key with
      | none =>
        rw [mget_none hl]
        rw [vws_ok hg, List.filterMap_eq_nil_iff.2 (fun r hr => by
          obtain ⟨k', cs⟩ := r
          have := look_none_iff.1 hl _ hr
          exact vw_no (by simpa using this))] at hv
        rcases hv with ⟨-, rfl, rfl, rfl⟩ | ⟨h, -⟩
        · rfl
        · have := h.length_le; simp at this
      | some u =>
        rw [mget_some hg hl]
        rw [get_vws (mgood_iff.1 hg) hl] at hv
        have hgd := (mgood_iff.1 hg).good _ (look_mem hl)
        by_cases e : fieldsN gs u gs.length = []
        · rw [if_pos e] at hv
          rw [view_none (by rw [e]; rfl)]
          rcases hv with ⟨-, rfl, rfl, rfl⟩ | ⟨h, -⟩
          · rfl
          · have := h.length_le; simp at this
        · rw [if_neg e] at hv
          rw [view_some hgd (fun h => e (List.length_eq_zero_iff.1 h))]
          rcases hv with ⟨h, -⟩ | ⟨h, rfl⟩
          · cases h
          · obtain ⟨t, ht⟩ := h
            injection ht with h1 h2
            rw [Prod.mk.injEq] at h1
            rw [h1.1, h1.2]
    · rw [mget_bad hg]
      rw [vws_bad hg] at hv
      rcases hv with ⟨-, rfl, rfl, rfl⟩ | ⟨h, -⟩
      · rfl
      · have := h.length_le; simp at this
  rw [← key']
  obtain ⟨a, c, e, -⟩ := id hf
  subst e
  exact ⟨a, c, rfl, hf, hb⟩
theorem FldV.nil (W : World) : FldV [] (.slice none 0 0) W := ⟨none, 0, rfl, ⟨rfl, Nat.le_refl _, by omega, .inl rfl⟩, fun h => absurd h (by decide)⟩
theorem noint2 (t : ByteArray) (a : Option Addr) (n c : Nat) : ∀ (i : Nat) (x : Int), (#[.string t, .slice a n c] : Array Value)[i]? ≠ some (.int .i64 x) := fun i x h => by
  match i, h with
  | 0, h => simp at h
  | 1, h => simp at h
  | j + 2, h => simp at h
theorem got_some {u : List Cl} {t : ByteArray} {w w' : World} {e : Ending} (h : GotPost (some u) t w e w') : ∃ a c, e = .returned (.tuple #[.agg #[.string t, .slice a u.length c], .bool true]) ∧ OwnC w' w.heap.size (.slice a u.length c) u ∧ Below w.heap.size w w' := by
  rcases h with ⟨cs, a, c, h9, rfl, h1, h2⟩ | ⟨h9, -⟩
  · obtain rfl : u = cs := Option.some.inj h9
    exact ⟨a, c, rfl, h1, h2⟩
  · cases h9
/-- A view that is stored in another block. -/
theorem FldV.stored {W : World} {fs : List Fld} {a : Option Addr} {n c q : Nat} {k0 : ByteArray} {a0 : Option Addr} {n0 c0 : Nat} (h : FldV fs (.slice a n c) W) (hq : W.heap[q]? = some (.cells #[.string k0, .slice a0 n0 c0] 80 (0, 0))) (k : ByteArray) (v : Value) : FldV fs (.slice a n c) ((W.setCell ⟨q, 0, none⟩ (.string k)).setCell ⟨q, 1, none⟩ v) := by
  have hn := h.apart hq (noint2 _ _ _ _)
  exact (h.cell (q := q) 0 _ hn).cell (q := q) 1 _ hn

set_option maxRecDepth 100000 in
set_option maxHeartbeats 6400000 in
theorem rmget_c {w : World} {x xl : Option Addr} {n1 cap m capl : Nat} {gs : List Grp} {L : List Rw} (hg : Grs w x n1 cap gs) (hs : ∀ g ∈ gs, g.1.length ≤ 9223372036854775807) (hl : RwsAt w xl m capl L) (hsh : RShort L) (key : List UInt8) :
    Calls Try.prog 39 #[.slice x n1 cap, .slice xl m capl, .string (text key)] w (GetSPost (mgetS gs (L.map Rw.pr) key) w) := by
  have hb := alloc_below w (.cells #[.string ⟨#[]⟩, .slice none 0 0] 80)
  have hr := heap_alloc_new w (.cells #[.string ⟨#[]⟩, .slice none 0 0] 80)
  have hT0 : text ([] : List UInt8) = ⟨#[]⟩ := rfl
  have HGD := Lib.hid (fun W (h : Below w.heap.size w W) => rmgood_c (hg.below h) hs (hl.below h) hsh)
  have HBD := Lib.hid (@mget_bad gs (L.map Rw.pr) key)
  have HNO := Lib.hid (@mget_none gs (L.map Rw.pr) key)
  have HSO := Lib.hid (fun u => @mget_some gs (L.map Rw.pr) key u)
  have HGT := Lib.hid (fun W (h : Below w.heap.size w W) (hz : ∀ r ∈ L, r.cs.length ≤ 1000000) => rget11_c (B0 := W.heap.size) ((hl.below h).ins (Nat.le_refl _)) hz key)
  have HIV := Lib.hid (fun (h : mgoodS gs (L.map Rw.pr) = 0) => mgood_iff.1 h)
  have HG := Lib.hid hg
  have HS := Lib.hid hs
  obtain ⟨tk, htk⟩ : ∃ z, text key = z := ⟨_, rfl⟩
  have HTK := Lib.hid htk
  rw [htk] at HGT ⊢
  obtain ⟨LK, hLK⟩ : ∃ z, look (L.map Rw.pr) key = z := ⟨_, rfl⟩
  rw [hLK] at HNO HSO HGT
  have HLK := Lib.hid hLK
  obtain ⟨GX, hGX⟩ : ∃ z, mgoodS gs (L.map Rw.pr) = z := ⟨_, rfl⟩
  rw [hGX] at HBD HSO HIV HGD
  obtain ⟨V, hV⟩ : ∃ z, mgetS gs (L.map Rw.pr) key = z := ⟨_, rfl⟩
  rw [hV] at HBD HNO HSO ⊢
  clear hg hs hl hsh htk hLK hGX hV
  go_enter Try.func39, Try.ntmps39
  go_upto_region 1 with (fail)
  obtain ⟨B, hB⟩ : ∃ q, w.heap.size = q := ⟨_, rfl⟩
  have HBe := Lib.hid hB
  rw [hB] at hr ⊢
  clear hB
  generalize w.alloc (.cells #[.string ⟨#[]⟩, .slice none 0 0] 80) = W1 at *
  have HB1 := Lib.hid hb
  have HR1 := Lib.hid hr
  clear hb hr
  by_cases hz : GX = 0
  · subst hz
    have hst := HIV.out rfl
    have HZ := Lib.hid (show ∀ r ∈ L, r.cs.length ≤ 1000000 from fun r hr => (rgood_short (hst.good r.pr (List.mem_map.2 ⟨r, hr, rfl⟩))).2.2.2.1)
    have HST := Lib.hid hst
    clear hst HIV HBD
    go_upto_region 3 with (go_at_call 35; (with_reducible refine (HGD.out _ HB1.out).mono ?_); rintro e9 w2 ⟨rfl, hb2⟩; have HB2 := Lib.hid (HB1.out.trans (hb2.mono HB1.out.size)); have HR2 := Lib.hid (heap_below HR1.out hb2); clear hb2)
    cases LK with
    | none =>
      have hV := HNO.out rfl
      subst hV
      clear HNO HSO
      go_upto_region 4 with (go_at_call 21; (with_reducible refine (HGT.out _ HB2.out HZ.out).mono ?_); rintro e9 w3 (⟨cs, a, c, h9, -⟩ | ⟨-, rfl, hb3⟩); exact absurd h9 (by simp); have HB3 := Lib.hid (HB2.out.trans (hb3.mono HB2.out.size)); have HR3 := Lib.hid (heap_below HR2.out hb3); clear hb3)
      have hal := alloc_below w3 (.cells #[.string ⟨#[]⟩, .slice none 0 0] 30)
      have HB4 := Lib.hid (HB3.out.trans (hal.mono HB3.out.size))
      have HR4 := Lib.hid (heap_below HR3.out hal)
      generalize w3.alloc (.cells #[.string ⟨#[]⟩, .slice none 0 0] 30) = W4 at *
      obtain ⟨z0, z1, zf⟩ := view_cells HR4.out
      go_wp2
      refine bodyPost_ret (res_cell_tmp rfl _ _ B 80 _ (0, 0) _ (.bool false) rfl rfl (view_set HR4.out ⟨#[]⟩ (.slice none 0 0)) Try.underlying80 rfl (by kernel_rfl)) rfl ?_
      exact ⟨none, 0, rfl, FldV.nil _, (HB4.out.setCell (p := ⟨B, 0, none⟩) (by have := HBe.out; simp; omega) _).setCell (p := ⟨B, 1, none⟩) (by have := HBe.out; simp; omega) _⟩
    | some u =>
      have hV := HSO.out u (by first | rfl | trivial) (by first | rfl | trivial)
      subst hV
      have hgu := HST.out.good _ (look_mem HLK.out)
      have hk32 := (rgood_short hgu).2.1
      have hu64 := (rgood_short hgu).2.2.2.2
      have HVW := Lib.hid (fun W (h : Below w.heap.size w W) (a : Option Addr) (c : Nat) (hc : Cls W a u.length c u) => rview_c (HG.out.below h) HS.out hc (fun c hc => Nat.le_trans (hu64 c hc) (by decide)) key (Nat.le_trans hk32 (by decide)))
      rw [HTK.out] at HVW
      obtain ⟨V, hV⟩ : ∃ z, viewS gs key u = z := ⟨_, rfl⟩
      rw [hV] at HVW
      have HVE := Lib.hid hV
      clear HNO HSO hgu hk32 hu64 hV
      go_upto_region 4 with (go_at_call 21; (with_reducible refine (HGT.out _ HB2.out HZ.out).mono ?_); rintro e9 w3 hp9; obtain ⟨a3, c3, rfl, ho3, hb3⟩ := got_some hp9; have HB3 := Lib.hid (HB2.out.trans (hb3.mono HB2.out.size)); have HR3 := Lib.hid (heap_below HR2.out hb3); have HO3 := Lib.hid ho3; clear hb3 ho3 hp9)
      have hal := alloc_below w3 (.cells #[.string tk, .slice a3 u.length c3] 30)
      have hnew := heap_alloc_new w3 (.cells #[.string tk, .slice a3 u.length c3] 30)
      have HB4 := Lib.hid (HB3.out.trans (hal.mono HB3.out.size))
      have HR4 := Lib.hid (heap_below HR3.out hal)
      have ho4 := HO3.out.kept hal
      obtain ⟨g, hg⟩ : ∃ z, w3.heap.size = z := ⟨_, rfl⟩
      rw [hg] at hnew ⊢
      generalize w3.alloc (.cells #[.string tk, .slice a3 u.length c3] 30) = W4 at *
      obtain ⟨r0, r1, -⟩ := row_cells hnew
      have hcl : Cls W4 a3 u.length c3 u := by
        obtain ⟨a', c', ev, hc⟩ := ho4.cls
        injection ev with e1 e2 e3
        subst e1 e3
        exact hc
      have HVC := Lib.hid (HVW.out W4 HB4.out a3 c3 hcl)
      clear hal hnew ho4 hg hcl HVW HO3 HGT
      go_wp2_with (go_at_call 69; (with_reducible refine HVC.out.mono ?_); rintro e9 w5 ⟨fv, rfl, hof, hb5⟩; have hf5 := FldV.of_own hof; obtain ⟨a5, c5, rfl, -⟩ := OwnF.flds hof; have HF5 := Lib.hid hf5; have HB5 := Lib.hid (HB4.out.trans (hb5.mono HB4.out.size)); have HR5 := Lib.hid (heap_below HR4.out hb5); clear hb5 hof hf5 r0 r1; obtain ⟨z0, z1, zf⟩ := view_cells HR5.out)
      refine bodyPost_ret (res_cell_tmp rfl _ _ B 80 _ (0, 0) _ (.bool V.2.2) rfl rfl (view_set HR5.out (text V.1) (.slice a5 V.2.1.length c5)) Try.underlying80 rfl (by kernel_rfl)) rfl ?_
      rw [HVE.out]
      exact ⟨a5, c5, rfl, HF5.out.stored HR5.out _ _, (HB5.out.setCell (p := ⟨B, 0, none⟩) (by have := HBe.out; simp; omega) _).setCell (p := ⟨B, 1, none⟩) (by have := HBe.out; simp; omega) _⟩
  · have hV := HBD.out hz
    subst hV
    clear HBD HNO HSO HIV
    go_wp2_with (go_at_call 35; (with_reducible refine (HGD.out _ HB1.out).mono ?_); rintro e9 w2 ⟨rfl, hb2⟩; have HB2 := Lib.hid (HB1.out.trans (hb2.mono HB1.out.size)); have HR2 := Lib.hid (heap_below HR1.out hb2); clear hb2; obtain ⟨z0, z1, zf⟩ := view_cells HR2.out)
    refine bodyPost_ret (res_cell_tmp rfl _ _ B 80 _ (0, 0) _ (.bool false) rfl rfl (view_set HR2.out ⟨#[]⟩ (.slice none 0 0)) Try.underlying80 rfl (by kernel_rfl)) rfl ?_
    exact ⟨none, 0, rfl, FldV.nil _, (HB2.out.setCell (p := ⟨B, 0, none⟩) (by have := HBe.out; simp; omega) _).setCell (p := ⟨B, 1, none⟩) (by have := HBe.out; simp; omega) _⟩
end Go.Proofs.Ytidbjmkfmfojdaa
end

section
namespace Go.Proofs.Ytidbjmkfmfojdaa
open Go.RowKit Go Go.Sort
set_option linter.unusedVariables false
set_option maxRecDepth 20000

def Vx.arr (x : Vx) : Array Value := #[.string (text x.k), x.v]
def Vx.zero : Vx := ⟨[], [], .slice none 0 0⟩
theorem vx_size (x : Vx) : x.arr.size = 2 := rfl
theorem Try.infoVx : (Try.prog.info? 80).map (fun i => (i.zero, i.size, i.bytes)) = some (some (.agg #[.string ⟨#[]⟩, .slice none 0 0]), 2, 40) := by kernel_rfl
/-- Views that lie in memory, each with its fields. -/
def VwsAt (W : World) (a : Option Addr) (m cap : Nat) (L : List Vx) : Prop := Ls 2 Vx.arr Vx.zero W a m cap L ∧ ∀ x ∈ L, FldV x.fs x.v W
theorem VwsAt.below {w w' : World} {a : Option Addr} {m cap : Nat} {L : List Vx} (h : VwsAt w a m cap L) (hb : Below w.heap.size w w') : VwsAt w' a m cap L := ⟨h.1.below hb, fun x hx => (h.2 x hx).kept hb⟩
theorem vx_mem {L : List Vx} {k : Nat} (h : k < L.length) : L.getD k Vx.zero ∈ L := by
  rw [List.getD_eq_getElem?_getD, List.getElem?_eq_getElem h]; exact List.getElem_mem h
theorem VwsAt.place {w : World} {a : Option Addr} {m cap : Nat} {L : List Vx} (h : VwsAt w a m cap L) {k : Nat} (hk : k < m) : ∃ b off a' n' c', a = some ⟨b, off, none⟩ ∧ (L.getD k Vx.zero).v = .slice a' n' c' ∧ n' = (L.getD k Vx.zero).fs.length ∧ Flds w a' n' c' (L.getD k Vx.zero).fs ∧
    ∀ W, Below w.heap.size w W → W.cell? ⟨b, off + k * 2, none⟩ = some (.string (text (L.getD k Vx.zero).k)) ∧ W.cell? ⟨b, off + k * 2 + 1, none⟩ = some (.slice a' n' c') := by
  obtain ⟨b, off, e, hat⟩ := h.1.at hk
  obtain ⟨a', c', eu, hc, -⟩ := h.2 _ (vx_mem (by rw [h.1.len]; exact hk))
  exact ⟨b, off, a', _, c', e, eu, rfl, hc, fun W hb => ⟨hat W hb 0 _ rfl, (hat W hb 1 (L.getD k Vx.zero).v rfl).trans (by rw [eu])⟩⟩
theorem vpr_at {la lb : List Vx} (h : la.map Vx.pr = lb.map Vx.pr) {k : Nat} (hk : k < la.length) : (la.getD k Vx.zero).k = (lb.getD k Vx.zero).k ∧ (la.getD k Vx.zero).fs = (lb.getD k Vx.zero).fs := by
  have hl : la.length = lb.length := by have := congrArg List.length h; simpa using this
  have h2 := congrArg (fun l => l[k]?) h
  simp only [List.getElem?_map, List.getElem?_eq_getElem hk, List.getElem?_eq_getElem (show k < lb.length by omega), Option.map_some, Option.some.injEq] at h2
  rw [List.getD_eq_getElem?_getD, List.getD_eq_getElem?_getD, List.getElem?_eq_getElem hk, List.getElem?_eq_getElem (by omega)]
  exact ⟨congrArg Prod.fst h2, congrArg Prod.snd h2⟩
/-- Views in a slice of the call's own. -/
structure OwnV (W : World) (B : Nat) (v : Value) (L : List Vx) : Prop where
  row : OwnL 2 80 Vx.arr W B v L
  has : ∀ x ∈ L, FldV x.fs x.v W
theorem OwnV.nil (W : World) (B : Nat) : OwnV W B (.slice none 0 0) [] := ⟨OwnL.nil _ _ _, fun x hx => by cases hx⟩
theorem OwnV.kept {W W' : World} {B : Nat} {v : Value} {L : List Vx} (h : OwnV W B v L) (hb : Below W.heap.size W W') : OwnV W' B v L := ⟨h.row.kept hb, fun x hx => (h.has x hx).kept hb⟩
theorem OwnV.mono {W : World} {B B' : Nat} {v : Value} {L : List Vx} (h : OwnV W B v L) (hB : B' ≤ B) : OwnV W B' v L := ⟨h.row.mono hB, h.has⟩
theorem OwnV.vws {W : World} {B : Nat} {v : Value} {L : List Vx} (h : OwnV W B v L) : ∃ a cap, v = .slice a L.length cap ∧ VwsAt W a L.length cap L := by
  obtain ⟨a, cap, ev, hl⟩ := h.row.ls (z := Vx.zero) vx_size
  exact ⟨a, cap, ev, hl, h.has⟩
/-- Fields while a slice of views grows. -/
theorem FldV.grow {W W' : World} {B : Nat} {fs : List Fld} {v u : Value} {L : List Vx} (h : FldV fs v W) (hr : OwnL 2 80 Vx.arr W B u L) (o : Obj) (hg : (W.alloc o).grownBy W' u.ownBlock) : FldV fs v W' := by
  obtain ⟨a, c, e, hf, ht⟩ := h
  have hne : 0 < fs.length → ∀ q off, a = some ⟨q, off, none⟩ → W'.heap[q]? = W.heap[q]? := fun hp q off ea => by
    obtain ⟨cur, fr, hx⟩ := ht hp q off ea
    have h1 := (Array.getElem?_eq_some_iff.1 hx).1
    exact (hg.block q (by simp; omega) (own_ne hx (by decide) hr)).trans (Below.heap_alloc W o q h1)
  refine ⟨a, c, e, ⟨hf.len, hf.le, hf.max, ?_⟩, fun hp q off ea => ?_⟩
  · rcases hf.adr with h4 | ⟨b, off, ea, hc⟩
    · exact .inl h4
    · refine .inr ⟨b, off, ea, fun i hi => ?_⟩
      have hb := hne (by omega) b off ea
      have key : ∀ j, W'.cell? ⟨b, j, none⟩ = W.cell? ⟨b, j, none⟩ := fun j => by simp only [World.cell?, hb]
      exact ⟨(key _).trans (hc i hi).1, (key _).trans (hc i hi).2⟩
  · obtain ⟨cur, fr, hx⟩ := ht hp q off ea
    exact ⟨cur, fr, (hne hp q off ea).trans hx⟩
theorem OwnV.push {W W' : World} {B : Nat} {v v' : Value} {L : List Vx} {x : Vx} (h : OwnV W B v L) (hx : FldV x.fs x.v W) (o : Obj) (hl : OwnL 2 80 Vx.arr W' B v' (L ++ [x])) (hg : (W.alloc o).grownBy W' v.ownBlock) : OwnV W' B v' (L ++ [x]) := by
  refine ⟨hl, fun y hy => ?_⟩
  rcases List.mem_append.1 hy with hy | hy
  · exact (h.has y hy).grow h.row o hg
  · rw [List.mem_singleton] at hy; subst hy; exact hx.grow h.row o hg
theorem wpList_append_vx {w : World} {ops : Array Oper} {rest : List Oper} {o : Oper} {ac : Act} {Q : Exit → Act → World → Prop} (hgd : o.guard = none) (os ox : Operand)
    (ho : o.op = .call { callee := .builtin .append, args := #[os, ox], argTypes := #[85, 85] })
    {base : Nat} {u : Value} {l : List Vx} (hs : ac.eval os = u) (hown : OwnL 2 80 Vx.arr w base u l) (t : ByteArray) {k : List UInt8} (ht : text k = t) (a9 : Option Addr) (n9 c9 : Nat) (fs : List Fld) {e9 : TypeId}
    (hx : ac.eval ox = .slice (some ⟨w.heap.size, 0, none⟩) 1 1) (h63 : l.length ≤ 1000000000) (hbase : base ≤ w.heap.size)
    (h : ∀ v' w', OwnL 2 80 Vx.arr w' base v' (l ++ [⟨k, fs, .slice a9 n9 c9⟩]) → (w.alloc (.cells #[.string t, .slice a9 n9 c9] e9)).grownBy w' u.ownBlock → wpList Try.prog ops Q rest (ac.put o.dst v') w') :
    wpList Try.prog ops Q (o :: rest) ac (w.alloc (.cells #[.string t, .slice a9 n9 c9] e9)) := by
  subst ht
  obtain ⟨i0, hi, hz0, hz1, hz2⟩ := info_parts Try.infoVx
  refine wpList_append_el hgd os ox 85 80 i0 _ 40 ho Try.underlying85 hi hz0 hz1 hz2 rfl (by decide) hs hown ⟨k, fs, .slice a9 n9 c9⟩ rfl rfl ?_ hx (by unfold maxLen; omega) (by omega) hbase h
  intro u hu
  have hu : u ∈ [Value.string (text k), .slice a9 n9 c9] := hu
  simp only [List.mem_cons, List.not_mem_nil, or_false] at hu
  rcases hu with rfl | rfl <;> rfl
/-- What Scan tells. -/
def ScanPost (V : List Vp) (w : World) (e : Ending) (w' : World) : Prop := ∃ a c NN, e = .returned (.slice a NN.length c) ∧ NN.map Vx.pr = V ∧ VwsAt w' a NN.length c NN ∧ Below w.heap.size w w'

set_option maxRecDepth 100000 in
set_option maxHeartbeats 6400000 in
theorem rviews_c {w : World} {x2 y2 : Option Addr} {m cap2 cap3 : Nat} {la lb : List Vx} (ha : VwsAt w x2 m cap2 la) (hb : VwsAt w y2 m cap3 lb) (he : la.map Vx.pr = lb.map Vx.pr) : Calls Try.prog 41 #[.slice x2 m cap2, .slice y2 m cap3] w (Tells (.bool true) w) := by
  have hal := ha.1.len
  have hale := ha.1.le
  have hame := ha.1.max
  have hble := hb.1.le
  have hbme := hb.1.max
  have HA := Lib.hid ha
  have HB := Lib.hid hb
  have HE := Lib.hid (fun k (hk : k < m) => vpr_at he (k := k) (by rw [hal]; exact hk))
  clear ha hb he hal
  have hmi : (m != m) = false := by simp
  go_enter Try.func41, Try.ntmps41
  go_wp2
  go_loopw [5] (fun i wr => ∃ k : Nat, k ≤ m ∧ i = .int .i64 (k : Int) ∧ Below w.heap.size w wr) (fun i _ => m - (intOf i).toNat)
  case atStart => exact ⟨0, by omega, rfl, Below.refl _ _⟩
  case round =>
    obtain ⟨k, hk, rfl, hb⟩ := hrel
    have HBx := Lib.hid hb
    clear hb
    by_cases hlt : k < m
    · have hki : (k : Int) < (m : Int) := by omega
      have hkc : (k : Int) < (cap2 : Int) := by omega
      have hkd : (k : Int) < (cap3 : Int) := by omega
      obtain ⟨ba, offa, aa, na, ca, rfl, eu, ena, hca, hat⟩ := HA.out.place hlt
      obtain ⟨bb, offb, ab, nb, cb, rfl, eu2, enb, hcb, hat2⟩ := HB.out.place hlt
      obtain ⟨e1, e2⟩ := HE.out k hlt
      rw [← e1] at hat2
      rw [← e2] at hcb enb
      rw [← ena] at enb
      subst enb
      obtain ⟨kx, hkx⟩ : ∃ z, text (la.getD k Vx.zero).k = z := ⟨_, rfl⟩
      rw [hkx] at hat hat2
      have HPW := Lib.hid (fun W (h : Below wr.heap.size wr W) => hat W (HBx.out.trans (h.mono HBx.out.size)))
      have HQW := Lib.hid (fun W (h : Below wr.heap.size wr W) => hat2 W (HBx.out.trans (h.mono HBx.out.size)))
      have HSM := Lib.hid (fun W (h : Below wr.heap.size wr W) => rsameview_c (hca.below (HBx.out.trans (h.mono HBx.out.size))) (hcb.below (HBx.out.trans (h.mono HBx.out.size))) kx)
      clear hat hat2 hkx eu eu2 hca hcb e1 e2 ena
      go_upto_region 6 with (fail)
      refine wp_region_flow [none,none,none,none,none,none,none,none,none,none,none,none,none,none,none,none,none, some 0, some 1, some 2, some 3, some 4, some 5, some 6, some 7, some 8, some 9] (fun i => [u17, u18, u19, u20, u21, u22, u23, u24, u25, u26].getD i undef) [(fun v _ => v = .slice (some ⟨ba, offa, none⟩) m cap2), (fun v _ => v = .int .i64 (k : Int)), (fun v _ => v = .pointer (some ⟨ba, offa + k * 2, none⟩)), (fun v _ => v = .agg #[.string kx, .slice aa nb ca]), (fun v _ => v = .slice (some ⟨bb, offb, none⟩) m cap3), (fun v _ => v = .int .i64 (k : Int)), (fun v _ => v = .pointer (some ⟨bb, offb + k * 2, none⟩)), (fun v _ => v = .agg #[.string kx, .slice ab nb cb]), (fun v _ => v = .bool true), (fun v _ => v = .bool false)] (by kernel_rfl) (by kernel_rfl) rfl rfl rfl ?_ ?_ ?_
      · intro g hg v X Y hX hY hv
        simp only [List.mem_cons, List.not_mem_nil, or_false] at hg
        rcases hg with rfl | rfl | rfl | rfl | rfl | rfl | rfl | rfl | rfl | rfl
        all_goals first
          | exact hv
          | exact hv.kept hY
      · simp only [flowOps, and_true]
        refine ⟨?_,?_,?_,?_,?_,?_,?_,?_,?_,?_⟩
        · intro xs W hW hn
          simp only [flowAct, zwc, zwn]
          go_wp2_with (fail)
          exact ⟨rfl, _, rfl, Below.refl _ _, rfl⟩
        · intro xs W hW hn
          simp only [flowAct, zwc, zwn]
          go_wp2_with (fail)
          exact ⟨rfl, _, rfl, Below.refl _ _, rfl⟩
        · intro xs W hW hn
          simp [flowNeeds, Region.binds] at hn
          simp only [flowAct, zwc, zwn]
          try simp only [hn]
          go_wp2_with (fail)
          exact ⟨rfl, _, rfl, Below.refl _ _, rfl⟩
        · intro xs W hW hn
          obtain ⟨p0, p1⟩ := HPW.out W hW
          simp [flowNeeds, Region.binds] at hn
          simp only [flowAct, zwc, zwn]
          try simp only [hn]
          go_wp2_with (fail)
          exact ⟨rfl, _, rfl, Below.refl _ _, rfl⟩
        · intro xs W hW hn
          simp only [flowAct, zwc, zwn]
          go_wp2_with (fail)
          exact ⟨rfl, _, rfl, Below.refl _ _, rfl⟩
        · intro xs W hW hn
          simp only [flowAct, zwc, zwn]
          go_wp2_with (fail)
          exact ⟨rfl, _, rfl, Below.refl _ _, rfl⟩
        · intro xs W hW hn
          simp [flowNeeds, Region.binds] at hn
          simp only [flowAct, zwc, zwn]
          try simp only [hn]
          go_wp2_with (fail)
          exact ⟨rfl, _, rfl, Below.refl _ _, rfl⟩
        · intro xs W hW hn
          obtain ⟨q0, q1⟩ := HQW.out W hW
          simp [flowNeeds, Region.binds] at hn
          simp only [flowAct, zwc, zwn]
          try simp only [hn]
          go_wp2_with (fail)
          exact ⟨rfl, _, rfl, Below.refl _ _, rfl⟩
        · intro xs W hW hn
          simp [flowNeeds, Region.binds] at hn
          simp only [flowAct, zwc, zwn]
          simp only [hn]
          go_wp2_with (go_at_call 40; (with_reducible refine (HSM.out W hW).mono ?_); rintro e9 w9 ⟨rfl, hb9⟩)
          exact ⟨rfl, _, rfl, hb9, rfl⟩
        · intro xs W hW hn
          simp [flowNeeds, Region.binds] at hn
          simp only [flowAct, zwc, zwn]
          try simp only [hn]
          go_wp2_with (fail)
          exact ⟨rfl, _, rfl, Below.refl _ _, rfl⟩
      · intro xs W hW hall
        simp only [flowAll, and_true, Nat.zero_add, Nat.reduceAdd] at hall
        obtain ⟨-,-,-,-,-,-,-,-,-, eL⟩ := hall
        simp only [flowAct, zwc, zwn]
        simp only [eL]
        have HBy := Lib.hid (HBx.out.trans (hW.mono HBx.out.size))
        clear eL hW
        go_wp2
        go_roundw
        case rel => exact ⟨k + 1, by omega, by go_num, HBy.out⟩
        case measure => simp [intOf]; omega
    · obtain rfl : m = k := by omega
      go_wp2
      go_ret
      exact ⟨rfl, HBx.out⟩
end Go.Proofs.Ytidbjmkfmfojdaa
end

section
namespace Go.Proofs.Ytidbjmkfmfojdaa
open Go.RowKit Go Go.Sort
set_option linter.unusedVariables false
set_option maxRecDepth 20000

/-- Which keys Scan chooses. -/
def chS (fr un : List UInt8) (k : List UInt8) : Bool := !Op.bytesLess k fr && (un == [] || Op.bytesLess k un)
def mscanS (gs : List Grp) (R : List Rp) (fr un : List UInt8) (n : Int) : List Vp := (vwsS gs (chS fr un) R).take n.toNat
theorem fm_take {f : Rp → Option Vp} {R : List Rp} {q : Nat} (h : q < R.length) {r : Rp} (hr : R.getD q ([], []) = r) : (R.take (q + 1)).filterMap f = (R.take q).filterMap f ++ (f r).toList := by subst hr; exact vws_take h
theorem view_key {gs : List Grp} {k : List UInt8} {cs : List Cl} (h : (viewS gs k cs).2.2 = true) : (viewS gs k cs).1 = k := by
  unfold viewS at h ⊢
  split
  · rfl
  · rename_i h2; rw [if_neg h2] at h; cases h

set_option maxRecDepth 100000 in
set_option maxHeartbeats 6400000 in
theorem rmscan_c {w : World} {x xl : Option Addr} {n1 cap m capl : Nat} {gs : List Grp} {L : List Rw} (hg : Grs w x n1 cap gs) (hs : ∀ g ∈ gs, g.1.length ≤ 9223372036854775807) (hl : RwsAt w xl m capl L) (hsh : RShort L) (hm : m ≤ 1000000) (fr un : List UInt8) (n : Int) :
    Calls Try.prog 43 #[.slice x n1 cap, .slice xl m capl, .string (text fr), .string (text un), .int .i64 n] w (ScanPost (mscanS gs (L.map Rw.pr) fr un n) w) := by
  have hll := hl.1.len
  have hle := hl.1.le
  have hmax := hl.1.max
  have hGD := fun W (h : Below w.heap.size w W) => rmgood_c (hg.below h) hs (hl.below h) hsh
  have HG := Lib.hid hg
  have HS := Lib.hid hs
  have HL := Lib.hid hl
  have HSH := Lib.hid hsh
  have HVB := Lib.hid (fun (h : ¬ mgoodS gs (L.map Rw.pr) = 0) => (show mscanS gs (L.map Rw.pr) fr un n = [] by unfold mscanS; rw [vws_bad h, List.take_nil]))
  have HVO := Lib.hid (fun (h : mgoodS gs (L.map Rw.pr) = 0) => (show mscanS gs (L.map Rw.pr) fr un n = ((L.map Rw.pr).filterMap (vwOf gs (chS fr un))).take n.toNat by unfold mscanS; rw [vws_ok h]))
  have HRL := Lib.hid (show (L.map Rw.pr).length = m by rw [List.length_map, hll])
  have HPR := Lib.hid (fun q (hq : q < m) => prs_at (L := L) (j := q) (by omega))
  obtain ⟨V, hV⟩ : ∃ z, mscanS gs (L.map Rw.pr) fr un n = z := ⟨_, rfl⟩
  rw [hV] at HVB HVO ⊢
  obtain ⟨R, hR⟩ : ∃ z, L.map Rw.pr = z := ⟨_, rfl⟩
  rw [hR] at HVB HVO HRL hGD
  simp only [hR] at HPR
  obtain ⟨GX, hGX⟩ : ∃ z, mgoodS gs R = z := ⟨_, rfl⟩
  rw [hGX] at HVB HVO
  simp only [hGX] at hGD
  have HGD := Lib.hid hGD
  obtain ⟨tf, htf⟩ : ∃ z, text fr = z := ⟨_, rfl⟩
  obtain ⟨tu, htu⟩ : ∃ z, text un = z := ⟨_, rfl⟩
  rw [htf, htu]
  have HTF := Lib.hid htf
  have HTU := Lib.hid htu
  have hn0 : (tu.toList == []) = (un == []) := by rw [← htu, text_toList]
  clear hg hs hl hsh hll hV hR hGX hGD htf htu
  go_enter Try.func43, Try.ntmps43
  by_cases hz : GX = 0
  · subst hz
    have hvo := HVO.out (by first | rfl | trivial)
    subst hvo
    clear HVO HVB
    go_upto_region 5 with (go_at_call 35; (with_reducible refine (HGD.out _ (Below.refl _ _)).mono ?_); rintro e9 w1 ⟨rfl, hb1⟩; have HB1 := Lib.hid hb1; clear hb1)
    go_wp2
    go_loopw [11, 12] (fun o j wr => ∃ (q : Nat) (v : Value) (NN : List Vx), q ≤ m ∧ j = .int .i64 (q : Int) ∧ o = v ∧ NN.map Vx.pr = (R.take q).filterMap (vwOf gs (chS fr un)) ∧ NN.length ≤ q ∧ (0 < NN.length → (NN.length : Int) ≤ n) ∧ OwnV wr w.heap.size v NN ∧ Below w.heap.size w wr) (fun _ j _ => m - (intOf j).toNat)
    case atStart => exact ⟨0, .slice none 0 0, [], by omega, rfl, rfl, rfl, Nat.le_refl _, fun h => absurd h (by decide), OwnV.nil _ _, HB1.out⟩
    case round =>
      clear HB1
      obtain ⟨q, v, NN, hq, rfl, rfl, hpr, hnq, hnn, ho, hbx⟩ := hrel
      obtain ⟨an, cn, ev, hvw⟩ := ho.vws
      subst ev
      obtain ⟨nl, hnl⟩ : ∃ z, NN.length = z := ⟨_, rfl⟩
      rw [hnl] at hnq hnn hvw ho ⊢
      have HNL := Lib.hid hnl
      have HPRR := Lib.hid hpr
      have HNN := Lib.hid hnn
      have HO := Lib.hid ho
      have HVW := Lib.hid hvw
      have HBx := Lib.hid hbx
      clear hnl hpr hnn ho hbx hvw
      by_cases hlq : q < m
      · have hqi : (q : Int) < (m : Int) := by omega
        have hqc : (q : Int) < (capl : Int) := by omega
        by_cases hln : (nl : Int) < n
        · have hprq := HPR.out q hlq
          have hmm := HSH.out _ (rw_mem (L := L) (k := q) (by rw [HL.out.1.len]; exact hlq))
          obtain ⟨bo, offo, ao, no, co, rfl, eu, eno, hco, hat⟩ := HL.out.place hlq
          obtain ⟨y, hy⟩ : ∃ y, L.getD q Rw.zero = y := ⟨_, rfl⟩
          rw [hy] at hat eu eno hco hprq hmm
          obtain ⟨ko, uo, cso⟩ := y
          simp only at hat eu eno hco hmm
          subst eno
          replace hprq : R.getD q ([], []) = (ko, cso) := hprq
          have HST := Lib.hid (fm_take (f := vwOf gs (chS fr un)) (R := R) (q := q) (by rw [HRL.out]; exact hlq) hprq)
          have hvc := rview_c (HG.out.below HBx.out) HS.out (hco.below HBx.out) hmm.2 ko hmm.1
          have hvk := @view_key gs ko cso
          have hfn : vwOf gs (chS fr un) (ko, cso) = if chS fr un ko = true then (if (viewS gs ko cso).2.2 = true then some ((viewS gs ko cso).1, (viewS gs ko cso).2.1) else none) else none := rfl
          obtain ⟨⟨vk, vf, vb⟩, hV⟩ : ∃ z, viewS gs ko cso = z := ⟨_, rfl⟩
          rw [hV] at hvc hvk hfn
          simp only at hvk hfn
          obtain ⟨to, hto⟩ : ∃ z, text ko = z := ⟨_, rfl⟩
          rw [hto] at hat hvc
          have h1 : Op.bytesLess to.toList tf.toList = Op.bytesLess ko fr := by rw [← hto, ← HTF.out, text_lss]
          have h3 : Op.bytesLess to.toList tu.toList = Op.bytesLess ko un := by rw [← hto, ← HTU.out, text_lss]
          have hch : chS fr un ko = (!Op.bytesLess ko fr && (un == [] || Op.bytesLess ko un)) := rfl
          obtain ⟨B1, hB1⟩ : ∃ z, Op.bytesLess ko fr = z := ⟨_, rfl⟩
          obtain ⟨B2, hB2⟩ : ∃ z, (un == []) = z := ⟨_, rfl⟩
          obtain ⟨B3, hB3⟩ : ∃ z, Op.bytesLess ko un = z := ⟨_, rfl⟩
          rw [hB1] at h1 hch
          rw [hB3] at h3 hch
          rw [hB2] at hch
          have hn1 := hn0
          rw [hB2] at hn1
          rw [hch] at hfn
          have HTO := Lib.hid hto
          have HVC := Lib.hid hvc
          obtain ⟨o0, o1⟩ := hat _ HBx.out
          clear hat hy hto hco hV hvc hprq hmm hB1 hB2 hB3 hch eu hn0
          go_upto_region 8 with (go_at_call 69; (with_reducible refine HVC.out.mono ?_); rintro e9 w5 ⟨fv, rfl, hof, hb5⟩; have hf5 := FldV.of_own hof; obtain ⟨a5, c5, rfl, -⟩ := OwnF.flds hof; simp only at hf5; have HF5 := Lib.hid hf5; have HB5 := Lib.hid (HBx.out.trans (hb5.mono HBx.out.size)); have HO5 := Lib.hid (HO.out.kept hb5); clear hb5 hof hf5 o0 o1)
          try simp only
          obtain ⟨tv, htv⟩ : ∃ z, text vk = z := ⟨_, rfl⟩
          rw [htv]
          have hal := alloc_below w5 (.cells #[.string tv, .slice a5 vf.length c5] 80)
          have hnew := heap_alloc_new w5 (.cells #[.string tv, .slice a5 vf.length c5] 80)
          have HB6 := Lib.hid (HB5.out.trans (hal.mono HB5.out.size))
          have HO6 := Lib.hid (HO5.out.kept hal)
          have HF6 := Lib.hid (HF5.out.kept hal)
          obtain ⟨g, hg⟩ : ∃ z, w5.heap.size = z := ⟨_, rfl⟩
          rw [hg] at hnew ⊢
          generalize w5.alloc (.cells #[.string tv, .slice a5 vf.length c5] 80) = W6 at *
          obtain ⟨z0, z1, -⟩ := view_cells hnew
          clear hal hnew hg HO5 HF5 HB5 HO HBx HVC HVW
          cases vb with
          | false =>
            have HF := Lib.hid (show vwOf gs (chS fr un) (ko, cso) = none by rw [hfn]; split <;> rfl)
            clear hfn hvk
            go_wp2
            go_roundw
            case rel => exact ⟨q + 1, _, NN, by omega, by go_num, rfl, by rw [HST.out, HF.out, HPRR.out]; exact (List.append_nil _).symm, by rw [HNL.out]; omega, by rw [HNL.out]; exact HNN.out, HO6.out, HB6.out⟩
            case measure => simp [intOf]; omega
          | true =>
            obtain rfl : vk = ko := hvk rfl
            obtain rfl : tv = to := htv.symm.trans HTO.out
            simp only [if_true] at hfn
            clear hvk htv
            cases B1 with
            | true =>
              have HF := Lib.hid (show vwOf gs (chS fr un) (vk, cso) = none by rw [hfn]; rfl)
              clear hfn
              go_wp2
              go_roundw
              case rel => exact ⟨q + 1, _, NN, by omega, by go_num, rfl, by rw [HST.out, HF.out, HPRR.out]; exact (List.append_nil _).symm, by rw [HNL.out]; omega, by rw [HNL.out]; exact HNN.out, HO6.out, HB6.out⟩
              case measure => simp [intOf]; omega
            | false =>
              cases B2 with
              | true =>
                have HF := Lib.hid (show vwOf gs (chS fr un) (vk, cso) = some (vk, vf) by rw [hfn]; rfl)
                clear hfn
                go_wp2_with (at_builtin; refine wpList_append_vx rfl _ _ rfl (u := .slice an nl cn) rfl HO6.out.row tv HTO.out a5 vf.length c5 vf rfl (by rw [HNL.out]; omega) HB6.out.size ?_; intro v' w' ho' hg'; have hbk := (HB6.out.alloc HB6.out.size (.cells #[.string tv, .slice a5 vf.length c5] 80)).grown hg' (by have := HB6.out.size; simp; omega) (fun z e => (HO6.out.row.lt z e).1); have hnk := HO6.out.push (x := ⟨vk, vf, .slice a5 vf.length c5⟩) HF6.out _ ho' hg'; have HBK := Lib.hid hbk; have HNK := Lib.hid hnk; clear hbk hnk ho' hg')
                go_roundw
                case rel => exact ⟨q + 1, _, _, by omega, by go_num, rfl, by rw [HST.out, HF.out, List.map_append, HPRR.out]; rfl, by rw [List.length_append, HNL.out]; simp; omega, by rw [List.length_append, HNL.out]; intro _; simp; omega, HNK.out, HBK.out⟩
                case measure => simp [intOf]; omega
              | false =>
                cases B3 with
                | true =>
                  have HF := Lib.hid (show vwOf gs (chS fr un) (vk, cso) = some (vk, vf) by rw [hfn]; rfl)
                  clear hfn
                  go_wp2_with (at_builtin; refine wpList_append_vx rfl _ _ rfl (u := .slice an nl cn) rfl HO6.out.row tv HTO.out a5 vf.length c5 vf rfl (by rw [HNL.out]; omega) HB6.out.size ?_; intro v' w' ho' hg'; have hbk := (HB6.out.alloc HB6.out.size (.cells #[.string tv, .slice a5 vf.length c5] 80)).grown hg' (by have := HB6.out.size; simp; omega) (fun z e => (HO6.out.row.lt z e).1); have hnk := HO6.out.push (x := ⟨vk, vf, .slice a5 vf.length c5⟩) HF6.out _ ho' hg'; have HBK := Lib.hid hbk; have HNK := Lib.hid hnk; clear hbk hnk ho' hg')
                  go_roundw
                  case rel => exact ⟨q + 1, _, _, by omega, by go_num, rfl, by rw [HST.out, HF.out, List.map_append, HPRR.out]; rfl, by rw [List.length_append, HNL.out]; simp; omega, by rw [List.length_append, HNL.out]; intro _; simp; omega, HNK.out, HBK.out⟩
                  case measure => simp [intOf]; omega
                | false =>
                  have HF := Lib.hid (show vwOf gs (chS fr un) (vk, cso) = none by rw [hfn]; rfl)
                  clear hfn
                  go_wp2
                  go_roundw
                  case rel => exact ⟨q + 1, _, NN, by omega, by go_num, rfl, by rw [HST.out, HF.out, HPRR.out]; exact (List.append_nil _).symm, by rw [HNL.out]; omega, by rw [HNL.out]; exact HNN.out, HO6.out, HB6.out⟩
                  case measure => simp [intOf]; omega
        · go_wp2
          go_ret
          refine ⟨an, cn, NN, by rw [HNL.out]; rfl, ?_, by rw [HNL.out]; exact HVW.out, HBx.out⟩
          rw [HPRR.out]
          have hpre : (R.take q).filterMap (vwOf gs (chS fr un)) <+: R.filterMap (vwOf gs (chS fr un)) := vws_pre q
          have hlen : ((R.take q).filterMap (vwOf gs (chS fr un))).length = n.toNat := by
            rw [← HPRR.out, List.length_map, HNL.out]
            by_cases h0 : 0 < nl
            · have := HNN.out h0; omega
            · omega
          obtain ⟨t, ht⟩ := hpre
          rw [← ht, ← hlen, List.take_left']
          rfl
      · obtain rfl : q = m := by omega
        go_wp2
        go_ret
        refine ⟨an, cn, NN, by rw [HNL.out]; rfl, ?_, by rw [HNL.out]; exact HVW.out, HBx.out⟩
        rw [HPRR.out, ← HRL.out, List.take_length, List.take_of_length_le]
        have hl9 : (R.filterMap (vwOf gs (chS fr un))).length = nl := by
          have := congrArg List.length HPRR.out
          rw [List.length_map, HNL.out, ← HRL.out, List.take_length] at this
          exact this.symm
        rw [hl9]
        by_cases h0 : 0 < nl
        · have := HNN.out h0; omega
        · omega
  · have hvb := HVB.out hz
    subst hvb
    clear HVO HVB
    go_wp2_with (go_at_call 35; (with_reducible refine (HGD.out _ (Below.refl _ _)).mono ?_); rintro e9 w1 ⟨rfl, hb1⟩)
    go_ret
    exact ⟨none, 0, [], rfl, rfl, ⟨Ls.nil _, fun x hx => by cases hx⟩, hb1⟩
end Go.Proofs.Ytidbjmkfmfojdaa
end

section
namespace Go.Proofs.Ytidbjmkfmfojdaa
open Go.RowKit Go Go.Sort
set_option linter.unusedVariables false
set_option maxRecDepth 20000

set_option maxRecDepth 100000 in
set_option maxHeartbeats 400000 in
theorem scan1_c (k fr un : List UInt8) (q q2 : Nat) (W : World) (h : W.heap[q]? = some (.cells #[.string (text fr)] 9 (0, 0))) (h2 : W.heap[q2]? = some (.cells #[.string (text un)] 9 (0, 0))) : Calls Try.prog 70 #[.string (text k), .pointer (some ⟨q, 0, none⟩), .pointer (some ⟨q2, 0, none⟩)] W (Tells (.bool (chS fr un k)) W) := by
  have hc : W.cell? ⟨q, 0, none⟩ = some (.string (text fr)) := by rw [cell_of_row _ q 0 _ _ (0, 0) h]; rfl
  have hc2 : W.cell? ⟨q2, 0, none⟩ = some (.string (text un)) := by rw [cell_of_row _ q2 0 _ _ (0, 0) h2]; rfl
  have h1 := text_lss k fr
  have h3 := text_lss k un
  have h4 : ((text un).toList == []) = (un == []) := by rw [text_toList]
  have hch : chS fr un k = (!Op.bytesLess k fr && (un == [] || Op.bytesLess k un)) := rfl
  obtain ⟨u, hu⟩ : ∃ z, text k = z := ⟨_, rfl⟩
  obtain ⟨u1, hu1⟩ : ∃ z, text fr = z := ⟨_, rfl⟩
  obtain ⟨u2, hu2⟩ : ∃ z, text un = z := ⟨_, rfl⟩
  obtain ⟨B1, hB1⟩ : ∃ z, Op.bytesLess k fr = z := ⟨_, rfl⟩
  obtain ⟨B2, hB2⟩ : ∃ z, (un == []) = z := ⟨_, rfl⟩
  obtain ⟨B3, hB3⟩ : ∃ z, Op.bytesLess k un = z := ⟨_, rfl⟩
  rw [hu, hu1, hB1] at h1
  rw [hu, hu2, hB3] at h3
  rw [hu2, hB2] at h4
  rw [hu1] at hc
  rw [hu2] at hc2
  rw [hB1, hB2, hB3] at hch
  rw [hu, hch]
  clear hu hu1 hu2 hB1 hB2 hB3 hch h h2
  cases B1 with
  | true =>
    go_enter Try.func70, Try.ntmps70
    go_wp2
    go_ret
    exact ⟨rfl, Below.refl _ _⟩
  | false =>
    cases B2 with
    | true =>
      go_enter Try.func70, Try.ntmps70
      go_wp2
      go_ret
      exact ⟨rfl, Below.refl _ _⟩
    | false =>
      go_enter Try.func70, Try.ntmps70
      go_wp2
      go_ret
      exact ⟨by simp, Below.refl _ _⟩

set_option maxRecDepth 100000 in
set_option maxHeartbeats 6400000 in
theorem views_tells2 {w0 w : World} {x xl : Option Addr} {n1 cap m capl : Nat} {gs : List Grp} {L : List Rw} (hg : Grs w0 x n1 cap gs) (hs : ∀ g ∈ gs, g.1.length ≤ 9223372036854775807) (hl : RwsAt w0 xl m capl L) (hsh : RShort L) (hw : Below w0.heap.size w0 w) (N Bl Br Bc q1 q2 : Nat) (Bs : Nat → Prop) (ch : List UInt8 → Bool)
    (hcl : w.heap[Bl]? = some (.cells #[.slice x n1 cap] 60 (0, 0))) (hcr : w.heap[Br]? = some (.cells #[.slice xl m capl] 27 (0, 0))) (hcc : w.heap[Bc]? = some (.cells #[.func (.func 70) #[] #[.pointer (some ⟨q1, 0, none⟩), .pointer (some ⟨q2, 0, none⟩)]] 39 (0, 0)))
    (hs1 : Bs Bl) (hs2 : Bs Br) (hs3 : Bs Bc) (hch : ∀ (k : List UInt8) (W : World), KP w0.heap.size Bs w W → Calls Try.prog 70 (#[.string (text k)] ++ #[.pointer (some ⟨q1, 0, none⟩), .pointer (some ⟨q2, 0, none⟩)]) W (Tells (.bool (ch k)) W)) :
    SeqTellsW Fence.wide N Try.prog 133 91 #[.pointer (some ⟨Bl, 0, none⟩), .pointer (some ⟨Br, 0, none⟩), .pointer (some ⟨Bc, 0, none⟩)] vxenc (KP w0.heap.size Bs) (fun pre x W => (pre ++ [x]).map Vx.pr <+: vwsS gs ch (L.map Rw.pr) ∧ FldV x.fs x.v W) (fun _ => True)
      (fun xs _ => xs.map Vx.pr = vwsS gs ch (L.map Rw.pr)) (fun _ _ => True) w := fun q J Jx W hW hJ hY h0 => by
  have hll := hl.1.len
  have hle := hl.1.le
  have hmax := hl.1.max
  have hBl := (Array.getElem?_eq_some_iff.1 hcl).1
  have hBr := (Array.getElem?_eq_some_iff.1 hcr).1
  have hBc := (Array.getElem?_eq_some_iff.1 hcc).1
  have hW0 : w0.heap.size ≤ W.heap.size := Nat.le_trans hw.size hW.size
  have hkW : KP w0.heap.size Bs w W := KP.of_below hw.size hW
  have hcell : W.cell? ⟨Bl, 0, none⟩ = some (.slice x n1 cap) := by
    have := (hW.block Bl hBl).trans hcl
    simp [World.cell?, this]
  have hcell2 : W.cell? ⟨Br, 0, none⟩ = some (.slice xl m capl) := by
    have := (hW.block Br hBr).trans hcr
    simp [World.cell?, this]
  have HGD := Lib.hid (mgood_c (hg.below (hw.trans (hW.mono hw.size))) hs (hl.below (hw.trans (hW.mono hw.size))) hsh)
  have HVW := Lib.hid (fun W' (h : Below w0.heap.size w0 W') (k : Nat) (hk : k < m) (u : Option Addr) (n c : Nat) (hu : Cls W' u n c (L.getD k Rw.zero).cs) => view_c (hg.below h) hs hu (hsh _ (rw_mem (L := L) (k := k) (by omega))).2 (L.getD k Rw.zero).k (hsh _ (rw_mem (L := L) (k := k) (by omega))).1)
  have HVB := Lib.hid (fun h => vws_bad (gs := gs) (ch := ch) (R := L.map Rw.pr) h)
  have HVO := Lib.hid (fun h => vws_ok (gs := gs) (ch := ch) (R := L.map Rw.pr) h)
  have HVT := Lib.hid (fun k (hk : k < m) => (show ((L.map Rw.pr).take (k + 1)).filterMap (vwOf gs ch) = ((L.map Rw.pr).take k).filterMap (vwOf gs ch) ++ (vwOf gs ch (L.getD k Rw.zero).pr).toList from by
    rw [vws_take (by rw [List.length_map]; omega), prs_at (by omega)]))
  have HVP := Lib.hid (fun k => vws_pre (f := vwOf gs ch) (R := L.map Rw.pr) k)
  have HVM := Lib.hid (show ((L.map Rw.pr).take m).filterMap (vwOf gs ch) = (L.map Rw.pr).filterMap (vwOf gs ch) by rw [List.take_of_length_le (by rw [List.length_map]; omega)])
  obtain ⟨VS, hVS⟩ : ∃ z, vwsS gs ch (L.map Rw.pr) = z := ⟨_, rfl⟩
  rw [hVS] at HVB HVO
  rw [hVS] at hY
  rw [hVS]
  obtain ⟨MG, hMG⟩ : ∃ z, mgoodS gs (L.map Rw.pr) = z := ⟨_, rfl⟩
  rw [hMG] at HGD HVB HVO
  obtain ⟨VK, hVK⟩ : ∃ VK : Nat → List Vp, VK = fun k => ((L.map Rw.pr).take k).filterMap (vwOf gs ch) := ⟨_, rfl⟩
  have HV0 := Lib.hid (show VK 0 = [] by rw [hVK]; rfl)
  have HVKS := Lib.hid (fun k (hk : k < m) => (show VK (k + 1) = VK k ++ (vwOf gs ch (L.getD k Rw.zero).pr).toList from by rw [hVK]; exact HVT.out k hk))
  have HVKP := Lib.hid (fun (h : MG = 0) k => (show VK k <+: VS from by rw [hVK, HVO.out h]; exact HVP.out k))
  have HVKM := Lib.hid (fun (h : MG = 0) => (show VK m = VS from by rw [hVK, HVO.out h]; exact HVM.out))
  have HL := Lib.hid hl
  have HG := Lib.hid hg
  have HCH := Lib.hid hch
  have HYY := Lib.hid @hY
  clear hVS hMG hVK HVT HVP HVM HVO hl hg hsh hs hll hch
  refine callsIn_of_wp Try.func91 rfl trivial ?_ rfl
  simp only [Try.ntmps91, List.size_toArray, List.length_cons, List.length_nil, Nat.reduceAdd, Nat.reduceSub, Array.replicate_succ, Array.replicate_zero, List.push_toArray, List.append_toArray, List.nil_append, List.cons_append]
  gi_wp2_with fail
  refine ⟨trivial, fun h => (by cases h), (callsIn_wide.2 HGD.out).mono ?_⟩
  rintro e w1 ⟨rfl, hb1⟩
  have hj1 := hJ [] W w1 none h0 (grown_none hb1) (fun r e => by cases e)
  have hk1 : KP w0.heap.size Bs w w1 := hkW.trans (KP.of_below hW0 hb1)
  have hs1w : W.heap.size ≤ w1.heap.size := hb1.size
  have hbr1 := hk1.box Br _ hs2 hcr
  have hcell2 : w1.cell? ⟨Br, 0, none⟩ = some (.slice xl m capl) := by simp [World.cell?, hbr1]
  clear hcell hb1 HGD hbr1
  by_cases hz : MG = 0
  · subst hz
    gi_wp2_with fail
    gi_loopw [15] (fun p wr => ∃ (pre : List Vx) (k : Nat), p = .int .i64 k ∧ k ≤ m ∧ pre.map Vx.pr = VK k ∧ J pre wr ∧ KP w0.heap.size Bs w wr ∧ W.heap.size ≤ wr.heap.size)
      (fun p wr => m - placeOf p)
    case atStart => exact ⟨[], 0, rfl, Nat.zero_le _, HV0.out.symm, hj1, hk1, hs1w⟩
    case round =>
      clear hcell2 hj1 hk1 hs1w
      obtain ⟨pre, k, rfl, hk, hpl, hJp, hkp, hsW⟩ := hrel
      by_cases hlt : k < m
      · have hki : (k : Int) < (m : Int) := by omega
        have hkc : (k : Int) < (capl : Int) := by omega
        obtain ⟨bo, offo, ao, no, co, rfl, eu, eno, hco, hat⟩ := HL.out.place hlt
        have hVW := fun W' (h : Below w0.heap.size w0 W') => HVW.out W' h k hlt ao no co (hco.below h)
        have hks := HVKS.out k hlt
        have hpre := HVKP.out (by first | rfl | trivial) (k + 1)
        have hbw := hw.trans (hkp.below.mono (Nat.le_refl _))
        obtain ⟨y, hy⟩ : ∃ y, L.getD k Rw.zero = y := ⟨_, rfl⟩
        rw [hy] at hat eu hVW hks
        obtain ⟨ko, uo, cso⟩ := y
        simp only [Rw.pr] at hat eu hVW hks
        have hv1 := fun h => @vw_no gs ch ko cso h
        have hv2 := fun h h2 => @vw_none gs ch ko cso h h2
        have hv3 := fun h h2 => @vw_some gs ch ko cso h h2
        obtain ⟨to, hto⟩ : ∃ z, text ko = z := ⟨_, rfl⟩
        have hCHK := fun W' h => HCH.out ko W' h
        simp only [hto] at hat hVW hCHK
        obtain ⟨CK, hCK⟩ : ∃ z, ch ko = z := ⟨_, rfl⟩
        rw [hCK] at hv1 hv2 hv3
        simp only [hCK] at hCHK
        obtain ⟨⟨VA, VF, VB⟩, hVV⟩ : ∃ z, viewS gs ko cso = z := ⟨_, rfl⟩
        rw [hVV] at hv2 hv3
        simp only [hVV] at hVW
        simp only at hv2 hv3
        obtain ⟨o0, o1⟩ := hat wr hbw
        have HKS := Lib.hid hks
        have HPRE := Lib.hid hpre
        have HV1 := Lib.hid hv1
        have HV2 := Lib.hid hv2
        have HV3 := Lib.hid hv3
        have HVWK := Lib.hid hVW
        have HCHK := Lib.hid hCHK
        have HPL := Lib.hid hpl
        have HJ := Lib.hid hJp
        have HKP := Lib.hid hkp
        have HSW := Lib.hid hsW
        have HBX := Lib.hid (alloc_below wr (.cells #[.string to, .slice ao no co] 30))
        have hnew := heap_alloc_new wr (.cells #[.string to, .slice ao no co] 30)
        have hbc := hkp.box Bc _ hs3 hcc
        have hbl := hkp.box Bl _ hs1 hcl
        clear hy eu eno hco hat hks hpre hv1 hv2 hv3 hVW hCHK hpl hJp hkp hsW hbw hVV hCK hto
        have hbc3 := heap_below hbc HBX.out
        have hbl3 := heap_below hbl HBX.out
        have c3 : (wr.alloc (.cells #[.string to, .slice ao no co] 30)).cell? ⟨Bc, 0, none⟩ = some (.func (.func 70) #[] #[.pointer (some ⟨q1, 0, none⟩), .pointer (some ⟨q2, 0, none⟩)]) := by simp [World.cell?, hbc3]
        have HK3 := Lib.hid (HKP.out.trans (KP.of_below (Nat.le_trans hW0 HSW.out) HBX.out))
        have HS3 := Lib.hid (Nat.le_trans HSW.out HBX.out.size)
        have HJ3 := Lib.hid (hJ pre wr _ none HJ.out (grown_none HBX.out) (fun r e => by cases e))
        clear hbc hbl
        gi_wp2_with fail
        refine ⟨trivial, fun h => (by cases h), (callsIn_wide.2 (HCHK.out _ HK3.out)).mono ?_⟩
        rintro e w2 ⟨rfl, hb2⟩
        clear c3 o0 o1
        obtain ⟨g, hg⟩ : ∃ z, wr.heap.size = z := ⟨_, rfl⟩
        obtain ⟨W3, hW3⟩ : ∃ X, wr.alloc (.cells #[.string to, .slice ao no co] 30) = X := ⟨_, rfl⟩
        rw [hg, hW3] at hnew
        rw [hW3] at hb2 HK3 HS3 HJ3 hbl3
        rw [hg]
        have HK4 := Lib.hid (HK3.out.trans (KP.of_below (Nat.le_trans hW0 HS3.out) hb2))
        have HS4 := Lib.hid (Nat.le_trans HS3.out hb2.size)
        have HJ4 := Lib.hid (hJ pre _ w2 none HJ3.out (grown_none hb2) (fun r e => by cases e))
        have hn2 := heap_below hnew hb2
        have hl2 := heap_below hbl3 hb2
        clear hbl3 hnew hb2 hbc3 hW3 hg HK3 HS3 HJ3 HJ HKP HSW HBX HCHK W3
        cases CK with
        | false =>
          have HVN := Lib.hid (show pre.map Vx.pr = VK (k + 1) by rw [HKS.out, HV1.out (by first | rfl | trivial), HPL.out]; simp)
          clear hn2 hl2
          gi_wp2
          go_roundw
          case rel => exact ⟨pre, k + 1, by go_num, by omega, HVN.out, HJ4.out, HK4.out, HS4.out⟩
          case measure => simp [placeOf]; omega
        | true =>
          obtain ⟨n0, n1', -⟩ := row_cells hn2
          have l2 : w2.cell? ⟨Bl, 0, none⟩ = some (.slice x n1 cap) := by simp [World.cell?, hl2]
          have HVWC := Lib.hid (HVWK.out w2 (hw.trans HK4.out.below))
          clear hn2 hl2
          gi_wp2_with fail
          refine ⟨trivial, fun h => (by cases h), (callsIn_wide.2 HVWC.out).mono ?_⟩
          rintro e w5 ⟨fv, rfl, hof, hb5⟩
          obtain ⟨a9, c9, rfl, hfl⟩ := OwnF.flds hof
          have hal := alloc_below w5 (.cells #[.string (text VA), .slice a9 VF.length c9] 80)
          have HB6 := Lib.hid (hb5.trans (hal.mono hb5.size))
          have HK6 := Lib.hid (HK4.out.trans (KP.of_below (Nat.le_trans hW0 HS4.out) HB6.out))
          have HS6 := Lib.hid (Nat.le_trans HS4.out HB6.out.size)
          have HJ6 := Lib.hid (hJ pre _ (w5.alloc (.cells #[.string (text VA), .slice a9 VF.length c9] 80)) none HJ4.out (grown_none HB6.out) (fun r e => by cases e))
          have HFV := Lib.hid (show FldV VF (.slice a9 VF.length c9) (w5.alloc (.cells #[.string (text VA), .slice a9 VF.length c9] 80)) from (FldV.of_own hof).kept hal)
          clear hof hfl hal hb5 n0 n1' l2 HVWC HK4 HS4 HJ4
          cases VB with
          | false =>
            have HVN := Lib.hid (show pre.map Vx.pr = VK (k + 1) by rw [HKS.out, HV2.out (by first | rfl | trivial) (by first | rfl | trivial), HPL.out]; simp)
            gi_wp2
            refine ⟨fun f h => (by cases h), ?_⟩
            gi_wp2
            go_roundw
            case rel => exact ⟨pre, k + 1, by go_num, by omega, HVN.out, HJ6.out, HK6.out, HS6.out⟩
            case measure => simp [placeOf]; omega
          | true =>
            have HVN := Lib.hid (show (pre ++ [(⟨VA, VF, .slice a9 VF.length c9⟩ : Vx)]).map Vx.pr = VK (k + 1) by rw [HKS.out, HV3.out (by first | rfl | trivial) (by first | rfl | trivial), List.map_append, HPL.out]; rfl)
            obtain ⟨fn, tmps, assign, body, hy, hR⟩ := HYY.out pre ⟨VA, VF, .slice a9 VF.length c9⟩ _ HJ6.out ⟨by rw [HVN.out]; exact HPRE.out, HFV.out⟩
            unfold vxenc at hy
            simp only at hy
            gi_wp2_with fail
            refine ⟨fun h => (by cases h), hR.mono ?_⟩
            rintro e9 W2 (⟨rfl, hJ2, hk2, -⟩ | ⟨rfl, hJx2, hk2⟩)
            · have HK7 := Lib.hid (HK6.out.trans hk2)
              have HS7 := Lib.hid (Nat.le_trans HS6.out hk2.below.size)
              have HJ7 := Lib.hid hJ2
              clear hy hR hJ2 hk2
              gi_wp2
              go_roundw
              case rel => exact ⟨pre ++ [⟨VA, VF, .slice a9 VF.length c9⟩], k + 1, by go_num, by omega, HVN.out, HJ7.out, HK7.out, HS7.out⟩
              case measure => simp [placeOf]; omega
            · gi_wp2
              refine bodyPost_ret (results_none rfl _ _ _) rfl ?_
              exact ⟨⟨_, rfl⟩, .inr ⟨_, trivial, hJx2⟩⟩
      · obtain rfl : k = m := by omega
        have hfin := HVKM.out (by first | rfl | trivial)
        gi_wp2
        go_end0
        exact ⟨⟨_, rfl⟩, .inl ⟨pre, hpl.trans hfin, hJp⟩⟩
  · have hvb := HVB.out hz
    gi_wp2
    refine bodyPost_ret (results_none rfl _ _ _) rfl ?_
    exact ⟨⟨_, rfl⟩, .inl ⟨[], hvb.symm, hj1⟩⟩
end Go.Proofs.Ytidbjmkfmfojdaa
end

section
namespace Go.Proofs.Ytidbjmkfmfojdaa
open Go.RowKit Go Go.Sort
set_option linter.unusedVariables false
set_option maxRecDepth 20000

theorem OwnL.typed {W : World} {B sz : Nat} {ty : TypeId} {α : Type} {arr : α → Array Value} {v : Value} {L : List α} (h : OwnL sz ty arr W B v L) {q : Nat} (hq : v.ownBlock = some q) : ∃ cur fr, W.heap[q]? = some (.cells cur ty fr) := by
  obtain ⟨hlen, ⟨ev, hn⟩ | ⟨g, cap, cur, ev, hB, hg, hnc, hcm, hcs, htake⟩⟩ := h
  · subst ev; cases hq
  · subst ev
    obtain rfl : g = q := Option.some.inj hq
    exact ⟨cur, _, hg⟩
theorem OwnV.of_keep {X Y : World} {B : Nat} {v : Value} {L : List Vx} (h : OwnV X B v L) (hk : ∀ (q : Nat) (cs : Array Value) (fr : Nat × Nat), (X.heap[q]? = some (.cells cs 80 fr) ∨ X.heap[q]? = some (.cells cs 96 fr)) → Y.heap[q]? = X.heap[q]?) : OwnV Y B v L := by
  refine ⟨h.row.of_block fun q hq => ?_, fun x hx => ?_⟩
  · obtain ⟨cur, fr, hc⟩ := h.row.typed hq
    exact hk q cur fr (.inl hc)
  · obtain ⟨a, c, e, hf, ht⟩ := h.has x hx
    have hne : 0 < x.fs.length → ∀ q off, a = some ⟨q, off, none⟩ → Y.heap[q]? = X.heap[q]? := fun hp q off ea => by
      obtain ⟨cur, fr, hx⟩ := ht hp q off ea
      exact hk q cur fr (.inr hx)
    refine ⟨a, c, e, ⟨hf.len, hf.le, hf.max, ?_⟩, fun hp q off ea => ?_⟩
    · rcases hf.adr with h4 | ⟨b, off, ea, hc⟩
      · exact .inl h4
      · refine .inr ⟨b, off, ea, fun i hi => ?_⟩
        have hb := hne (by omega) b off ea
        have key : ∀ j, Y.cell? ⟨b, j, none⟩ = X.cell? ⟨b, j, none⟩ := fun j => by simp only [World.cell?, hb]
        exact ⟨(key _).trans (hc i hi).1, (key _).trans (hc i hi).2⟩
    · obtain ⟨cur, fr, hx⟩ := ht hp q off ea
      exact ⟨cur, fr, (hne hp q off ea).trans hx⟩
theorem wpListIn_append_vx {F : Fence} {n' : Nat} {w : World} {ops : Array Oper} {rest : List Oper} {o : Oper} {ac : Act} {Q : Exit → Act → World → Prop} (hgd : o.guard = none) (os ox : Operand)
    (ho : o.op = .call { callee := .builtin .append, args := #[os, ox], argTypes := #[85, 85] })
    {base : Nat} {u : Value} {l : List Vx} (hs : ac.eval os = u) (hown : OwnL 2 80 Vx.arr w base u l) (k : List UInt8) (a9 : Option Addr) (n9 c9 : Nat) (fs : List Fld) {e9 : TypeId}
    (hx : ac.eval ox = .slice (some ⟨w.heap.size, 0, none⟩) 1 1) (h63 : l.length ≤ 1000000000) (hbase : base ≤ w.heap.size)
    (h : ∀ v' w', OwnL 2 80 Vx.arr w' base v' (l ++ [⟨k, fs, .slice a9 n9 c9⟩]) → (w.alloc (.cells #[.string (text k), .slice a9 n9 c9] e9)).grownBy w' u.ownBlock → wpListIn F n' Try.prog ops Q rest (ac.put o.dst v') w') :
    wpListIn F n' Try.prog ops Q (o :: rest) ac (w.alloc (.cells #[.string (text k), .slice a9 n9 c9] e9)) := by
  obtain ⟨i0, hi, hz0, hz1, hz2⟩ := info_parts Try.infoVx
  refine wpListIn_append_own (P := Try.prog) (w.alloc (.cells #[.string (text k), .slice a9 n9 c9] e9)) hgd os ox 85 ho base 80 i0 _ 2 40 Try.underlying85 hi hz0 hz1 hz2 rfl (by decide) u l.length (lCells Vx.arr l) hs (World.ownsRow.alloc hown _)
    ⟨w.heap.size, 0, none⟩ 1 1 [.string (text k), .slice a9 n9 c9] hx rfl ?_ ?_ (by unfold maxLen; omega) (by omega) (by simp; omega) ?_
  · intro j v hj
    rw [addr_add, Nat.zero_add, cell_of_row _ _ j #[.string (text k), .slice a9 n9 c9] e9 (0, 0) (by rw [heap_alloc_new])]
    rw [← hj]; simp
  · intro v hv
    simp only [List.mem_cons, List.not_mem_nil, or_false] at hv
    rcases hv with rfl | rfl <;> rfl
  · intro v' w' h2 h3 _
    refine h v' w' ?_ h3
    unfold OwnL
    rw [List.length_append, lCells_append]
    exact h2
attribute [local go_sem] Oper.semAt_some
/-- Between two rounds: what came was appended. -/
def ScI (VS : List Vp) (n : Int) (n₀ B B9 : Nat) (w : World) (xs : List Vx) (W : World) : Prop :=
  ∃ v, OwnV W B9 v xs ∧ W.heap[B + 1 + 1 + 1]? = some (.cells #[v] 85 (0, 0)) ∧ W.heap[B + 1 + 1]? = some (.cells #[.int .i64 n] 3 (0, 0)) ∧ xs.map Vx.pr <+: VS ∧ (0 < xs.length → (xs.length : Int) ≤ n) ∧ Below n₀ w W ∧ B9 ≤ W.heap.size
theorem ScI.own {VS : List Vp} {n : Int} {n₀ B B9 B8 : Nat} {w : World} (h1 : n₀ ≤ B8) (h2 : n₀ ≤ B9) : OwnT B8 133 (ScI VS n n₀ B B9 w) := by
  rintro xs X Y row ⟨v, ho, hb, hc, hp, hn, hw, hs⟩ hg hr
  exact ⟨v, ho.of_keep fun q cs fr h => by
      rcases h with h | h
      · exact (turn_keep hg hr h (by decide)).trans h.symm
      · exact (turn_keep hg hr h (by decide)).trans h.symm, turn_keep hg hr hb (by decide), turn_keep hg hr hc (by decide), hp, hn, turn_below hg hr h1 (Nat.le_trans h2 hs) hw, Nat.le_trans hs hg.size⟩
def ScX (VS : List Vp) (n : Int) (n₀ B B9 : Nat) (w : World) (c : Code) (xs : List Vx) (W : World) : Prop :=
  c = .exit 0 ∧ ∃ pre v, OwnV W B9 v pre ∧ W.heap[B + 1 + 1 + 1]? = some (.cells #[v] 85 (0, 0)) ∧ pre.map Vx.pr = VS.take n.toNat ∧ Below n₀ w W ∧ B9 ≤ W.heap.size
theorem ScX.own {VS : List Vp} {n : Int} {n₀ B B9 B8 : Nat} {w : World} (c : Code) (h1 : n₀ ≤ B8) (h2 : n₀ ≤ B9) : OwnFrom B8 (ScX VS n n₀ B B9 w c) := by
  rintro xs X Y row ⟨hc, pre, v, ho, hb, hp, hw, hs⟩ hg hr
  have hr' := fun r e => (hr r e).2
  exact ⟨hc, pre, v, ho.of_keep fun q cs fr h => by
      rcases h with h | h
      · exact grownBy_keeps_cells hg hr' h rfl
      · exact grownBy_keeps_cells hg hr' h rfl, (grownBy_keeps_cells hg hr' hb rfl).trans hb, hp, below_turn hg hr h1 (Nat.le_trans h2 hs) hw, Nat.le_trans hs hg.size⟩
def ScA (VS : List Vp) (B : Nat) (tm : Nat → Vx → Array Value) (z : Vx) (a' : Act) (W : World) : Prop := ∃ g a0 q c0, W.heap[g]? = some (.cells #[.string (text z.k), z.v] 80 (0, 0)) ∧ W.heap[B + 1 + 1 + 1]? = some (.cells #[.slice a0 q c0] 85 (0, 0)) ∧ VS.take q ++ [z.pr] <+: VS ∧ FldV z.fs z.v W ∧ a' = { tmps := tm g z, defers := [] }
theorem ScA.own {VS : List Vp} {B : Nat} {tm : Nat → Vx → Array Value} {B8 : Nat} (z : Vx) (a' : Act) : OwnFrom B8 (fun (_ : Unit) W => ScA VS B tm z a' W) := by
  rintro _ X Y row ⟨g, a0, q, c0, hb, hc, hp, hf, e⟩ hg hr
  have hr' := fun r e => (hr r e).2
  exact ⟨g, a0, q, c0, grownBy_keeps_cells hg hr' hb rfl |>.trans hb, grownBy_keeps_cells hg hr' hc rfl |>.trans hc, hp, hf.turn hg hr', e⟩

set_option maxRecDepth 100000 in
set_option maxHeartbeats 6400000 in
theorem mscan_c {w : World} {x xl : Option Addr} {n1 cap m capl : Nat} {gs : List Grp} {L : List Rw} (hg : Grs w x n1 cap gs) (hs : ∀ g ∈ gs, g.1.length ≤ 9223372036854775807) (hl : RwsAt w xl m capl L) (hsh : RShort L) (hm : m ≤ 1000000) (fr un : List UInt8) (n : Int) :
    Calls Try.prog 42 #[.slice x n1 cap, .slice xl m capl, .string (text fr), .string (text un), .int .i64 n] w (ScanPost (mscanS gs (L.map Rw.pr) fr un n) w) := by
  unfold mscanS
  have hvl : (vwsS gs (chS fr un) (L.map Rw.pr)).length ≤ 1000000 := by
    unfold vwsS
    split
    · exact Nat.le_trans (List.length_filterMap_le _ _) (by rw [List.length_map, hl.1.len]; exact hm)
    · exact Nat.zero_le _
  obtain ⟨VS, hVS⟩ : ∃ z, vwsS gs (chS fr un) (L.map Rw.pr) = z := ⟨_, rfl⟩
  rw [hVS] at hvl
  have HVL := Lib.hid hvl
  clear hvl
  have hb1 := (((alloc_below w (.cells #[.string (text fr)] 9)).alloc (by simp) (.cells #[.string (text un)] 9)).alloc (by simp; omega) (.cells #[.int .i64 n] 3)).alloc (by simp; omega) (.cells #[.slice none 0 0] 85)
  have e3 := heap_alloc_new (((w.alloc (.cells #[.string (text fr)] 9)).alloc (.cells #[.string (text un)] 9)).alloc (.cells #[.int .i64 n] 3)) (.cells #[.slice none 0 0] 85)
  have e2 := heap_below (heap_alloc_new ((w.alloc (.cells #[.string (text fr)] 9)).alloc (.cells #[.string (text un)] 9)) (.cells #[.int .i64 n] 3)) (alloc_below _ (.cells #[.slice none 0 0] 85))
  have e1 := heap_below (heap_below (heap_alloc_new (w.alloc (.cells #[.string (text fr)] 9)) (.cells #[.string (text un)] 9)) (alloc_below _ (.cells #[.int .i64 n] 3))) (alloc_below _ (.cells #[.slice none 0 0] 85))
  have e0 := heap_below (heap_below (heap_below (heap_alloc_new w (.cells #[.string (text fr)] 9)) (alloc_below _ (.cells #[.string (text un)] 9))) (alloc_below _ (.cells #[.int .i64 n] 3))) (alloc_below _ (.cells #[.slice none 0 0] 85))
  have hsz : ((((w.alloc (.cells #[.string (text fr)] 9)).alloc (.cells #[.string (text un)] 9)).alloc (.cells #[.int .i64 n] 3)).alloc (.cells #[.slice none 0 0] 85)).heap.size = w.heap.size + 1 + 1 + 1 + 1 := by simp
  simp only [World.size_alloc] at e1 e2 e3
  rw [hVS]
  refine (callsIn_wide (n := 3)).1 ?_
  refine callsIn_of_wp_marks Try.func42 rfl trivial ?_ rfl
  simp only [Try.ntmps42, List.size_toArray, List.length_cons, List.length_nil, Nat.reduceAdd, Nat.reduceSub, Array.replicate_succ, Array.replicate_zero, List.push_toArray, List.append_toArray, List.nil_append, List.cons_append]
  gi_wp2_with fail
  refine ⟨trivial, (callsIn_wide.2 views_c).mono ?_⟩
  rintro e w1 ⟨rfl, rfl⟩
  obtain ⟨W1, hW1⟩ : ∃ X, (((w.alloc (.cells #[.string (text fr)] 9)).alloc (.cells #[.string (text un)] 9)).alloc (.cells #[.int .i64 n] 3)).alloc (.cells #[.slice none 0 0] 85) = X := ⟨_, rfl⟩
  obtain ⟨B, hB⟩ : ∃ q, w.heap.size = q := ⟨_, rfl⟩
  have HBe := Lib.hid hB
  rw [hW1] at hb1 e0 e1 e2 e3 hsz ⊢
  rw [hB] at e0 e1 e2 e3 hsz ⊢
  clear hW1 hB
  rw [hsz]
  have f0 := heap_below (heap_below (heap_alloc_new W1 (.cells #[.slice x n1 cap] 60)) (alloc_below _ (.cells #[.slice xl m capl] 27))) (alloc_below _ (.cells #[.func (.func 70) #[] #[.pointer (some ⟨B, 0, none⟩), .pointer (some ⟨B + 1, 0, none⟩)]] 39))
  have f1 := heap_below (heap_alloc_new (W1.alloc (.cells #[.slice x n1 cap] 60)) (.cells #[.slice xl m capl] 27)) (alloc_below _ (.cells #[.func (.func 70) #[] #[.pointer (some ⟨B, 0, none⟩), .pointer (some ⟨B + 1, 0, none⟩)]] 39))
  have f2 := heap_alloc_new ((W1.alloc (.cells #[.slice x n1 cap] 60)).alloc (.cells #[.slice xl m capl] 27)) (.cells #[.func (.func 70) #[] #[.pointer (some ⟨B, 0, none⟩), .pointer (some ⟨B + 1, 0, none⟩)]] 39)
  have hbW := ((alloc_below W1 (.cells #[.slice x n1 cap] 60)).alloc (by simp) (.cells #[.slice xl m capl] 27)).alloc (by simp; omega) (.cells #[.func (.func 70) #[] #[.pointer (some ⟨B, 0, none⟩), .pointer (some ⟨B + 1, 0, none⟩)]] 39)
  have hsz0 : (((W1.alloc (.cells #[.slice x n1 cap] 60)).alloc (.cells #[.slice xl m capl] 27)).alloc (.cells #[.func (.func 70) #[] #[.pointer (some ⟨B, 0, none⟩), .pointer (some ⟨B + 1, 0, none⟩)]] 39)).heap.size = B + 1 + 1 + 1 + 1 + 1 + 1 + 1 := by simp [hsz]
  simp only [World.size_alloc, hsz] at f0 f1 f2
  gi_wp2_with fail
  obtain ⟨W0, hW0⟩ : ∃ X, ((W1.alloc (.cells #[.slice x n1 cap] 60)).alloc (.cells #[.slice xl m capl] 27)).alloc (.cells #[.func (.func 70) #[] #[.pointer (some ⟨B, 0, none⟩), .pointer (some ⟨B + 1, 0, none⟩)]] 39) = X := ⟨_, rfl⟩
  rw [hW0] at f0 f1 f2 hbW hsz0 ⊢
  clear hW0
  have g0 := heap_below e0 hbW
  have g1 := heap_below e1 hbW
  have g2 := heap_below e2 hbW
  have g3 := heap_below e3 hbW
  have hw0 := hb1.trans (hbW.mono hb1.size)
  clear e0 e1 e2 e3 hb1 hbW
  have hn9 : w.heap.size ≤ W0.heap.size := hw0.size
  have HSZ0 := Lib.hid hsz0
  refine wpIn_range_tellsW (F := Fence.wide) rfl (by omega) (gf := 91) (lb := #[.pointer (some ⟨B + 1 + 1 + 1 + 1, 0, none⟩), .pointer (some ⟨B + 1 + 1 + 1 + 1 + 1, 0, none⟩), .pointer (some ⟨B + 1 + 1 + 1 + 1 + 1 + 1, 0, none⟩)]) rfl trivial (enters_of Try.func91 (by kernel_rfl) rfl)
    (views_tells2 hg hs hl hsh hw0 2 (B + 1 + 1 + 1 + 1) (B + 1 + 1 + 1 + 1 + 1) (B + 1 + 1 + 1 + 1 + 1 + 1) B (B + 1) (fun j => j = B ∨ j = B + 1 ∨ j = B + 1 + 1 + 1 + 1 ∨ j = B + 1 + 1 + 1 + 1 + 1 ∨ j = B + 1 + 1 + 1 + 1 + 1 + 1) (chS fr un) f0 f1 f2 (.inr (.inr (.inl rfl))) (.inr (.inr (.inr (.inl rfl)))) (.inr (.inr (.inr (.inr rfl))))
      (fun k W hk => scan1_c k fr un B (B + 1) W (hk.box B _ (.inl rfl) g0) (hk.box (B + 1) _ (.inr (.inl rfl)) g1)))
    KP.trans (fun W l o o' hl h ho _ => KP.putObj W l o o' (by omega) (by rintro k (rfl | rfl | rfl | rfl | rfl) <;> omega) h)
    (fun xs X Y row hs hg hr => hs) (fun xs X Y row hs hg hr => hs) (fun _ => rfl)
    (ScI VS n w.heap.size B W0.heap.size w) (ScX VS n w.heap.size B W0.heap.size w) (ScI.own hn9 hn9) (fun c => ScX.own c hn9 hn9) ⟨.slice none 0 0, OwnV.nil _ _, g3, g2, List.nil_prefix, fun h => absurd h (by decide), hw0, Nat.le_refl _⟩
    (ScA VS B (fun g z => #[.slice x n1 cap, .slice xl m capl, .string (text fr), .string (text un), .int .i64 n, undef,undef, .pointer (some ⟨B, 0, none⟩), .pointer (some ⟨B + 1, 0, none⟩), .pointer (some ⟨B + 1 + 1, 0, none⟩), .slice none 0 0, .func (.func 70) #[] #[.pointer (some ⟨B, 0, none⟩), .pointer (some ⟨B + 1, 0, none⟩)], .pointer (some ⟨B + 1 + 1 + 1, 0, none⟩), .pointer (some ⟨g, 0, none⟩), .func (.func 70) #[] #[.pointer (some ⟨B, 0, none⟩), .pointer (some ⟨B + 1, 0, none⟩)], .slice x n1 cap, .slice xl m capl, .func (.func 70) #[] #[.pointer (some ⟨B, 0, none⟩), .pointer (some ⟨B + 1, 0, none⟩)], .func (.func 91) #[] #[.pointer (some ⟨B + 1 + 1 + 1 + 1, 0, none⟩), .pointer (some ⟨B + 1 + 1 + 1 + 1 + 1, 0, none⟩), .pointer (some ⟨B + 1 + 1 + 1 + 1 + 1 + 1, 0, none⟩)], .agg #[.string (text z.k), z.v], undef,undef,undef,undef,undef,undef,undef,undef,undef])) (fun z a' => ScA.own z a') ?assign ?body ?done ?stop
  case assign =>
    clear hsz0
    rintro q pre z W K ⟨v, ho, hb, hc, hp, hn, hw, hs2⟩ ⟨hpx, hf⟩ hK
    rw [hVS] at hpx
    dsimp only [vxenc]
    obtain ⟨zk, zf, zv⟩ := z
    obtain ⟨az, cz, ez, -⟩ := id hf
    simp only at ez hf
    subst ez
    obtain ⟨a0, c0, ev, -⟩ := ho.vws
    subst ev
    have hal := alloc_below W (.cells #[.string (text zk), .slice az zf.length cz] 80)
    have HK := Lib.hid @hK
    have HKP := Lib.hid (show KP w.heap.size (fun j => j = B ∨ j = B + 1 ∨ j = B + 1 + 1 + 1 + 1 ∨ j = B + 1 + 1 + 1 + 1 + 1 ∨ j = B + 1 + 1 + 1 + 1 + 1 + 1) W (W.alloc (.cells #[.string (text zk), .slice az zf.length cz] 80)) from KP.of_below (by have := hw.size; omega) hal)
    have HI := Lib.hid ((ScI.own hn9 hn9).from.alloc (.cells #[.string (text zk), .slice az zf.length cz] 80) (show ScI VS n w.heap.size B W0.heap.size w pre W from ⟨_, ho, hb, hc, hp, hn, hw, hs2⟩))
    have HF := Lib.hid (show FldV zf (.slice az zf.length cz) (W.alloc (.cells #[.string (text zk), .slice az zf.length cz] 80)) from hf.kept hal)
    have HP := Lib.hid (show VS.take pre.length ++ [(zk, zf)] <+: VS from by
      rw [← show pre.map Vx.pr = VS.take pre.length from by
        obtain ⟨t, ht⟩ := hp
        rw [← ht, ← List.length_map (f := Vx.pr), List.take_left']
        rfl]
      simpa [Vx.pr] using hpx)
    have HC := Lib.hid (heap_below hb hal)
    clear hK ho hb hc hp hn hw hs2 hpx hf hal
    gi_wp2
    exact HK.out _ _ ((KeepsOthers.alloc _ _).from _) HKP.out HI.out ⟨W.heap.size, a0, pre.length, c0, heap_alloc_new W _, HC.out, HP.out, HF.out, rfl⟩
  case body =>
    clear hsz0
    rintro q pre z a' W ⟨v, ho, hb, hc, hp, hn, hw, hs2⟩ ⟨g, a0, q0, c0, hgz, hb2, hpx, hf, rfl⟩
    obtain rfl : v = .slice a0 q0 c0 := by simpa using hb.symm.trans hb2
    obtain ⟨a1, c1, ev, -⟩ := ho.vws
    injection ev with e1 e2 e3
    subst e1 e2 e3
    obtain ⟨zk, zf, zv⟩ := z
    obtain ⟨az, cz, ez, -⟩ := id hf
    simp only at ez hf hgz hpx
    subst ez
    have r0 : W.cell? ⟨g, 0, none⟩ = some (.string (text zk)) := by rw [cell_of_row _ g 0 _ _ (0, 0) hgz]; rfl
    have r1 : W.cell? ⟨g, 1, none⟩ = some (.slice az zf.length cz) := by rw [cell_of_row _ g 1 _ _ (0, 0) hgz]; rfl
    have d0 : W.cell? ⟨B + 1 + 1 + 1, 0, none⟩ = some (.slice a0 pre.length c0) := by rw [cell_of_row _ (B + 1 + 1 + 1) 0 _ _ (0, 0) hb]; rfl
    have df : ∀ i, W.frozen? ⟨B + 1 + 1 + 1, i, none⟩ = false := fun i => frozen_of_row _ (B + 1 + 1 + 1) i _ _ hb
    have n0 : W.cell? ⟨B + 1 + 1, 0, none⟩ = some (.int .i64 n) := by rw [cell_of_row _ (B + 1 + 1) 0 _ _ (0, 0) hc]; rfl
    have hpm : pre.map Vx.pr = VS.take pre.length := by
      obtain ⟨t, ht⟩ := hp
      rw [← ht, ← List.length_map (f := Vx.pr), List.take_left']
      rfl
    have hpl : pre.length ≤ 1000000 := by
      have h1 := hp.length_le
      rw [List.length_map] at h1
      have := HVL.out
      omega
    by_cases hln : (pre.length : Int) < n
    · have HO := Lib.hid ho
      have HBB := Lib.hid hb
      have HCC := Lib.hid hc
      have HWW := Lib.hid hw
      have HS2 := Lib.hid hs2
      have HF := Lib.hid hf
      have HPX := Lib.hid (show (pre ++ [(⟨zk, zf, .slice az zf.length cz⟩ : Vx)]).map Vx.pr <+: VS from by rw [List.map_append, hpm]; exact hpx)
      have hfin : ∀ (v' : Value) (w' : World), OwnL 2 80 Vx.arr w' W0.heap.size v' (pre ++ [⟨zk, zf, .slice az zf.length cz⟩]) → (W.alloc (.cells #[.string (text zk), .slice az zf.length cz] 80)).grownBy w' (Value.ownBlock (.slice a0 pre.length c0)) →
          (∃ cs, w'.heap[B + 1 + 1 + 1]? = some (.cells cs 85 (0, 0)) ∧ cs.size = 1) ∧ RoundPost W0.heap.size (KP w.heap.size (fun j => j = B ∨ j = B + 1 ∨ j = B + 1 + 1 + 1 + 1 ∨ j = B + 1 + 1 + 1 + 1 + 1 ∨ j = B + 1 + 1 + 1 + 1 + 1 + 1)) (fun _ => True) (ScI VS n w.heap.size B W0.heap.size w) (ScX VS n w.heap.size B W0.heap.size w) pre ⟨zk, zf, .slice az zf.length cz⟩ W .normal { tmps := #[], defers := [] } (w'.setCell ⟨B + 1 + 1 + 1, 0, none⟩ v') := fun v' w' ho' hg' => by
        have hpush := ho.push (x := ⟨zk, zf, .slice az zf.length cz⟩) hf _ ho' hg'
        have hlow : ∀ j, j < W0.heap.size → w'.heap[j]? = W.heap[j]? := fun j hj =>
          (hg'.block j (by simp; omega) (fun e => by have := (ho.row.lt j e.symm).1; omega)).trans (Below.heap_alloc W _ j (by omega))
        have hbw := (hlow (B + 1 + 1 + 1) (by have := HSZ0.out; omega)).trans hb
        have hcw := (hlow (B + 1 + 1) (by have := HSZ0.out; omega)).trans hc
        have hbel : Below w.heap.size W w' := ((Below.refl _ W).alloc (by have := hw.size; omega) _).grown hg' (by have := hw.size; simp; omega) (fun k e => by have := (ho.row.lt k e).1; omega)
        refine ⟨⟨_, hbw, rfl⟩, (((KeepsOthers.alloc _ _).trans (KeepsOthers.of_grownBy hg' (fun j o e h => by
          obtain ⟨cur, fr, hx⟩ := (ho.row.kept (alloc_below W _)).typed e
          rw [hx] at h
          cases h
          rfl))).trans (KeepsOthers.setCell _ _ _)).from _, ⟨hbel.setCell (p := ⟨B + 1 + 1 + 1, 0, none⟩) (by have := HBe.out; simp; omega) _, fun j o hj hjo => ?_⟩, trivial, ?_⟩
        · rw [heap_setCell_other _ _ _ _ (by rcases hj with rfl | rfl | rfl | rfl | rfl <;> simp <;> omega), hlow j (by have := HSZ0.out; rcases hj with rfl | rfl | rfl | rfl | rfl <;> omega)]
          exact hjo
        · refine ⟨v', hpush.of_keep fun q cs fr h => heap_setCell_other _ _ _ _ (fun e => ?_), (heap_setCell_same _ (B + 1 + 1 + 1) 0 _ _ _ hbw).trans rfl, (heap_setCell_other _ _ _ _ (by simp)).trans hcw, by rw [List.map_append, hpm]; exact hpx, fun _ => by rw [List.length_append]; simp; omega, (hw.trans (hbel.mono (Nat.le_refl _))).setCell (p := ⟨B + 1 + 1 + 1, 0, none⟩) (by have := HBe.out; simp; omega) _, by simp only [World.size_setCell]; exact Nat.le_trans hs2 (Nat.le_trans (alloc_below W _).size hg'.size)⟩
          subst e
          rw [hbw] at h
          rcases h with h | h <;> (injection h with h; injection h with _ h _; exact absurd h (by decide))
      have HFIN := Lib.hid hfin
      clear hfin ho hb hb2 hc hp hw hs2 hf hpm hpx hgz
      gi_wp2_with (gi_at_builtin; refine wpListIn_append_vx rfl _ _ rfl (u := .slice a0 pre.length c0) rfl HO.out.row zk az zf.length cz zf rfl (by omega) HS2.out ?_; intro v' w' ho' hg'; obtain ⟨⟨cs9, hx9, hz9⟩, hr9⟩ := HFIN.out v' w' ho' hg'; obtain ⟨a8, c8, e8, -⟩ := OwnL.ls (z := Vx.zero) vx_size ho'; rw [List.length_append, List.length_singleton] at e8; subst e8; have HR9 := Lib.hid hr9; clear hr9 ho' hg'; have dfw : w'.frozen? ⟨B + 1 + 1 + 1, 0, none⟩ = false := frozen_of_row _ (B + 1 + 1 + 1) 0 _ _ hx9; have d0w : w'.cell? ⟨B + 1 + 1 + 1, 0, none⟩ = some (cs9.getD 0 undef) := by rw [cell_of_row _ (B + 1 + 1 + 1) 0 _ _ (0, 0) hx9]; simp [Array.getD, hz9])
      exact HR9.out
    · have HR := Lib.hid (show RoundPost W0.heap.size (KP w.heap.size (fun j => j = B ∨ j = B + 1 ∨ j = B + 1 + 1 + 1 + 1 ∨ j = B + 1 + 1 + 1 + 1 + 1 ∨ j = B + 1 + 1 + 1 + 1 + 1 + 1)) (fun _ => True) (ScI VS n w.heap.size B W0.heap.size w) (ScX VS n w.heap.size B W0.heap.size w) pre ⟨zk, zf, .slice az zf.length cz⟩ W (.exit 0) { tmps := #[], defers := [] } W from by
        refine ⟨KeepsFrom.refl _ _, KP.refl _ _ _, rfl, pre, _, ho, hb, ?_, hw, hs2⟩
        rw [hpm]
        have : pre.length = n.toNat := by
          by_cases h0 : 0 < pre.length
          · have := hn h0; omega
          · omega
        rw [this])
      clear ho hb hb2 hc hp hw hs2 hf hpm hpx hgz
      gi_wp2
      exact HR.out
  case done =>
    clear hsz0
    rintro D xs W hD hxs ⟨v, ho, hb, hc, hp, hn, hw, hs2⟩ hK
    rw [hVS] at hxs
    obtain ⟨a0, c0, ev, -⟩ := ho.vws
    subst ev
    have d0 : W.cell? ⟨B + 1 + 1 + 1, 0, none⟩ = some (.slice a0 xs.length c0) := by rw [cell_of_row _ (B + 1 + 1 + 1) 0 _ _ (0, 0) hb]; rfl
    have HO := Lib.hid ho
    have HW := Lib.hid hw
    have HV9 := Lib.hid (show xs.map Vx.pr = VS.take n.toNat from by
      rw [hxs, List.take_of_length_le]
      have hl : xs.length = VS.length := by rw [← hxs, List.length_map]
      by_cases h0 : 0 < xs.length
      · have := hn h0; omega
      · omega)
    clear ho hw hb hc hp hxs
    gi_wp2
    refine ⟨by simp, .inl ⟨_, _, rfl, run_takeDeferred hK, ?_⟩⟩
    refine ⟨_, results_tmp rfl _ _ _, a0, c0, xs, rfl, HV9.out, ?_,?_⟩
    · have h2 := HO.out.of_keep (Y := W.putObj D (.deferred none)) (fun q cs fr h => World.putObj_heap_other (fun e => by subst e; rw [hK] at h; rcases h with h | h <;> cases h))
      obtain ⟨a9, c9, ev, hv⟩ := h2.vws
      injection ev with e1 e2 e3
      subst e1 e3
      exact hv
    · exact HW.out.trans (belowK_b (w := w) (Nat.le_refl _) W D _ _ (by have := HBe.out; have := HSZ0.out; omega) hK rfl rfl)
  case stop =>
    clear hsz0
    rintro D c pre W hD - ⟨rfl, xs, v, ho, hb, hp, hw, hs2⟩ hK
    obtain ⟨a0, c0, ev, -⟩ := ho.vws
    subst ev
    have d0 : W.cell? ⟨B + 1 + 1 + 1, 0, none⟩ = some (.slice a0 xs.length c0) := by rw [cell_of_row _ (B + 1 + 1 + 1) 0 _ _ (0, 0) hb]; rfl
    have HO := Lib.hid ho
    have HW := Lib.hid hw
    have HV9 := Lib.hid hp
    clear ho hw hb hp
    gi_wp2
    refine ⟨by simp, .inl ⟨_, _, rfl, run_takeDeferred hK, ?_⟩⟩
    refine ⟨_, results_tmp rfl _ _ _, a0, c0, xs, rfl, HV9.out, ?_,?_⟩
    · have h2 := HO.out.of_keep (Y := W.putObj D (.deferred none)) (fun q cs fr h => World.putObj_heap_other (fun e => by subst e; rw [hK] at h; rcases h with h | h <;> cases h))
      obtain ⟨a9, c9, ev, hv⟩ := h2.vws
      injection ev with e1 e2 e3
      subst e1 e3
      exact hv
    · exact HW.out.trans (belowK_b (w := w) (Nat.le_refl _) W D _ _ (by have := HBe.out; have := HSZ0.out; omega) hK rfl rfl)
end Go.Proofs.Ytidbjmkfmfojdaa
end

section
namespace Go.Proofs.Ytidbjmkfmfojdaa
open Go.RowKit Go Go.Sort
set_option linter.unusedVariables false
set_option maxRecDepth 20000

/-- A list of views, told by its value. -/
def VsV (V : List Vp) (v : Value) (W : World) : Prop := ∃ a c NN, v = .slice a NN.length c ∧ VwsAt W a NN.length c NN ∧ NN.map Vx.pr = V
theorem VsV.kept {V : List Vp} {v : Value} {X Y : World} (h : VsV V v X) (hb : Below X.heap.size X Y) : VsV V v Y := by
  obtain ⟨a, c, NN, e, h1, h2⟩ := h; exact ⟨a, c, NN, e, h1.below hb, h2⟩
theorem ask_cells {W : World} {q : Nat} {v0 v1 v2 v3 : Value} (h : W.heap[q]? = some (.cells #[v0, v1, v2, v3] 77 (0, 0))) :
    W.cell? ⟨q, 0, none⟩ = some v0 ∧ W.cell? ⟨q, 1, none⟩ = some v1 ∧ W.cell? ⟨q, 2, none⟩ = some v2 ∧ W.cell? ⟨q, 3, none⟩ = some v3 :=
  ⟨by rw [cell_of_row _ q 0 _ _ (0, 0) h]; rfl, by rw [cell_of_row _ q 1 _ _ (0, 0) h]; rfl, by rw [cell_of_row _ q 2 _ _ (0, 0) h]; rfl, by rw [cell_of_row _ q 3 _ _ (0, 0) h]; rfl⟩

theorem trod_ask13 {H : Type} {enc : TypeId × Value → H} {W : World} {fuel : Nat} {cs : List Value} {x : DataW H × List MemPlace} (h : DataW.trod enc Try.prog W 0 (fun _ => true) true fuel 77 cs = some x) :
    ∃ (k f u : List UInt8) (n : Int), cs = [.string (text k), .string (text f), .string (text u), .int .i64 n] ∧ k.length ≤ maxLen ∧ f.length ≤ maxLen ∧ u.length ≤ maxLen := by
  obtain ⟨xs, m, _, rfl, hl, hlen, hf⟩ := DataW.trod_struct Try.underlying77 h
  have h4 : Try.prog.cellsOf 77 = 4 := by kernel_rfl
  have h9 : Try.prog.cellsOf 9 = 1 := by kernel_rfl
  have h3 : Try.prog.cellsOf 3 = 1 := by kernel_rfl
  rw [h4] at hl
  match xs, hlen with
  | [y0, y1, y2, y3], _ =>
    have i0 := hf 0 _ rfl
    have i1 := hf 1 _ rfl
    have i2 := hf 2 _ rfl
    have i3 := hf 3 _ rfl
    match cs, hl with
    | [c0, c1, c2, c3], _ =>
      have j0 : DataW.trod enc Try.prog W 0 (fun _ => true) true m 9 (([c0, c1, c2, c3].drop 0).take (Try.prog.cellsOf 9)) = some y0 := i0
      have j1 : DataW.trod enc Try.prog W 0 (fun _ => true) true m 9 (([c0, c1, c2, c3].drop 1).take (Try.prog.cellsOf 9)) = some y1 := i1
      have j2 : DataW.trod enc Try.prog W 0 (fun _ => true) true m 9 (([c0, c1, c2, c3].drop 2).take (Try.prog.cellsOf 9)) = some y2 := i2
      have j3 : DataW.trod enc Try.prog W 0 (fun _ => true) true m 3 (([c0, c1, c2, c3].drop 3).take (Try.prog.cellsOf 3)) = some y3 := i3
      rw [h9] at j0 j1 j2
      rw [h3] at j3
      obtain ⟨s0, e0, _, w0⟩ := DataW.trod_string Try.underlying9 j0
      obtain ⟨s1, e1, _, w1⟩ := DataW.trod_string Try.underlying9 j1
      obtain ⟨s2, e2, _, w2⟩ := DataW.trod_string Try.underlying9 j2
      obtain ⟨n, e3, -⟩ := DataW.trod_int Try.underlying3 j3
      simp at e0 e1 e2 e3
      subst e0 e1 e2 e3
      exact ⟨s0.data.toList, s1.data.toList, s2.data.toList, n, rfl, by simpa using w0, by simpa using w1, by simpa using w2⟩
theorem open_ask13 {H : Type} {enc : TypeId × Value → H} {W : World} {base : Nat} {v : Value} {x : DataW H} {p : List MemPlace} (hv : Value.okWide Try.prog W .any base 77 v)
    (h : DataW.Trod enc Try.prog W 0 (fun _ => true) true 77 v x p) : ∃ (k f u : List UInt8) (n : Int), v = .agg #[.string (text k), .string (text f), .string (text u), .int .i64 n] ∧ k.length ≤ 9223372036854775807 ∧ f.length ≤ 9223372036854775807 ∧ u.length ≤ 9223372036854775807 := by
  simp only [Value.okWide, Try.underlying77] at hv
  obtain ⟨cs, rfl, hs, _⟩ := hv
  obtain ⟨m, hm⟩ := h
  obtain ⟨k, f, u, n, hc, h1, h2, h3⟩ := trod_ask13 hm
  refine ⟨k, f, u, n, ?_, by unfold maxLen at h1; exact h1, by unfold maxLen at h2; exact h2, by unfold maxLen at h3; exact h3⟩
  congr 1
  apply Array.toList_inj.1
  exact hc

set_option maxRecDepth 100000 in
set_option maxHeartbeats 12800000 in
theorem masks_walk {w : World} {x xa : Option Addr} {n1 cap ma capa : Nat} {gs : List Grp} {LA : List Rw} (hg : Grs w x n1 cap gs) (hs : ∀ g ∈ gs, g.1.length ≤ 9223372036854775807) (ha : RwsAt w xa ma capa LA) (hsa : RShort LA)
    (qk qf qu : List UInt8) (qn : Int) (hk : qk.length ≤ 9223372036854775807) (hf : qf.length ≤ 9223372036854775807) (hu : qu.length ≤ 9223372036854775807) :
    Calls Try.prog 9 #[.slice x n1 cap, .slice xa ma capa, .agg #[.string (text qk), .string (text qf), .string (text qu), .int .i64 qn]] w (Tells (.bool true) w) := by
  have hle1 := hg.le
  have hmax1 := hg.max
  have hn1 : n1 ≤ 9223372036854775807 := by omega
  have hz1 : ((text qk).size : Int) = (qk.length : Int) := by rw [text_size]
  have hz2 : ((text qf).size : Int) = (qf.length : Int) := by rw [text_size]
  have hz3 : ((text qu).size : Int) = (qu.length : Int) := by rw [text_size]
  have HGT := Lib.hid (fun W (h : Below w.heap.size w W) => (mget_c (hg.below h) hs (ha.below h) hsa qk).mono fun _ _ h => get_post h)
  have HRG := Lib.hid (fun W (h : Below w.heap.size w W) => rmget_c (hg.below h) hs (ha.below h) hsa qk)
  have HSC := Lib.hid (fun (hm : ma ≤ 1000000) W (h : Below w.heap.size w W) => mscan_c (hg.below h) hs (ha.below h) hsa hm qf qu qn)
  have HRC := Lib.hid (fun (hm : ma ≤ 1000000) W (h : Below w.heap.size w W) => rmscan_c (hg.below h) hs (ha.below h) hsa hm qf qu qn)
  have HLT := Lib.hid (fun W (h : Below w.heap.size w W) => (show Calls Try.prog 29 #[.slice x n1 cap, .slice none 0 0, .slice (some ⟨W.heap.size, 0, none⟩) 1 1] (W.alloc (.cells #[.slice xa ma capa] 27)) (fun e w' => ∃ b : Bool, e = .returned (.bool b) ∧ (b = true → ma ≤ 600) ∧ Below (W.alloc (.cells #[.slice xa ma capa] 27)).heap.size (W.alloc (.cells #[.slice xa ma capa] 27)) w') from by
    have hal := alloc_below W (.cells #[.slice xa ma capa] 27)
    have hnew := heap_alloc_new W (.cells #[.slice xa ma capa] 27)
    have hF : RlAt (W.alloc (.cells #[.slice xa ma capa] 27)) W.heap.size 0 1 (fun j => (xa, ma, capa, LA)) := by
      intro j hj
      obtain rfl : j = 0 := by omega
      exact ⟨by rw [cell_of_row _ _ _ _ _ _ hnew]; rfl, (ha.below h).below hal, hsa⟩
    have hE : ChsAt (W.alloc (.cells #[.slice xa ma capa] 27)) none 0 0 [] := ⟨⟨rfl, Nat.le_refl _, by omega, .inl rfl⟩, fun j hj => absurd hj (by omega)⟩
    refine (mlightr_c (x := x) (cap := cap) hn1 hE (Nat.le_refl 1) (by omega) hF).mono ?_
    rintro e w' ⟨b, rfl, hb, hbw⟩
    exact ⟨b, rfl, fun h => ((hb h).2 0 (by omega)).1, hbw⟩))
  obtain ⟨⟨vk, vf, bv⟩, hV⟩ : ∃ z, mgetS gs (LA.map Rw.pr) qk = z := ⟨_, rfl⟩
  obtain ⟨V, hVV⟩ : ∃ z, mscanS gs (LA.map Rw.pr) qf qu qn = z := ⟨_, rfl⟩
  rw [hV] at HGT HRG
  rw [hVV] at HSC HRC
  obtain ⟨tv, htv⟩ : ∃ z, text vk = z := ⟨_, rfl⟩
  obtain ⟨nv, hnv⟩ : ∃ z, vf.length = z := ⟨_, rfl⟩
  obtain ⟨tk, htk⟩ : ∃ z, text qk = z := ⟨_, rfl⟩
  obtain ⟨tf, htf⟩ : ∃ z, text qf = z := ⟨_, rfl⟩
  obtain ⟨tu, htu⟩ : ∃ z, text qu = z := ⟨_, rfl⟩
  obtain ⟨lk, hlk⟩ : ∃ z, (qk.length : Int) = z := ⟨_, rfl⟩
  obtain ⟨lf, hlf⟩ : ∃ z, (qf.length : Int) = z := ⟨_, rfl⟩
  obtain ⟨lu, hlu⟩ : ∃ z, (qu.length : Int) = z := ⟨_, rfl⟩
  have b1 : 0 ≤ lk ∧ lk ≤ 9223372036854775807 := by omega
  have b2 : 0 ≤ lf ∧ lf ≤ 9223372036854775807 := by omega
  have b3 : 0 ≤ lu ∧ lu ≤ 9223372036854775807 := by omega
  have hGT := fun W h => (HGT.out W h)
  have hRG := fun W h => (HRG.out W h)
  have hSC := fun hm W h => (HSC.out hm W h)
  have hRC := fun hm W h => (HRC.out hm W h)
  unfold GetSPost at hGT hRG
  simp only [htk, htv] at hGT hRG
  simp only [htf, htu] at hSC hRC
  rw [htk, hlk] at hz1
  rw [htf, hlf] at hz2
  rw [htu, hlu] at hz3
  rw [htk, htf, htu]
  clear HGT HRG HSC HRC
  have HGT := Lib.hid hGT
  have HRG := Lib.hid hRG
  have HSC0 := Lib.hid hSC
  have HRC0 := Lib.hid hRC
  have HNV := Lib.hid hnv
  have hal0 := alloc_below w (.cells #[.string tk, .string tf, .string tu, .int .i64 qn] 77)
  have hnew0 := heap_alloc_new w (.cells #[.string tk, .string tf, .string tu, .int .i64 qn] 77)
  clear hGT hRG hSC hRC hV hVV htv hnv htk htf htu hlk hlf hlu hg hs ha hsa hk hf hu b1 b2 b3
  go_enter Try.func9, Try.ntmps9
  go_upto_region 1 with (fail)
  obtain ⟨B, hB⟩ : ∃ q, w.heap.size = q := ⟨_, rfl⟩
  rw [hB] at hnew0 ⊢
  clear hB
  generalize w.alloc (.cells #[.string tk, .string tf, .string tu, .int .i64 qn] 77) = W1 at *
  have HB1 := Lib.hid hal0
  have HQ1 := Lib.hid hnew0
  clear hal0
  obtain ⟨q0, q1, q2, q3⟩ := ask_cells (heap_below hnew0 (alloc_below W1 (.cells #[.slice xa ma capa] 27)))
  have hfrm : True := trivial
  clear hnew0
  have HLC := Lib.hid (HLT.out W1 HB1.out)
  clear q0 q1 q2 q3
  go_upto_region 3 with (first
    | (go_at_call 29; (with_reducible refine HLC.out.mono ?_); rintro e9 w2 ⟨b, rfl, hbt, hb2⟩; have HB2 := Lib.hid ((HB1.out.alloc HB1.out.size (.cells #[.slice xa ma capa] 27)).trans (hb2.mono (by have := HB1.out.size; simp; omega))); have HQ2 := Lib.hid (heap_below (heap_below HQ1.out (alloc_below W1 (.cells #[.slice xa ma capa] 27))) hb2); obtain ⟨q0, q1, q2, q3⟩ := ask_cells HQ2.out)
    | (go_at_call 30; (with_reducible refine (mlives_c _).mono ?_); rintro e9 w9 ⟨rfl, hb9⟩))
  · go_ret
    exact ⟨rfl, HB2.out.trans (hb9.mono HB2.out.size)⟩
  rotate_left
  · go_ret
    exact ⟨rfl, HB2.out.trans (hb9.mono HB2.out.size)⟩
  have hma : ma ≤ 600 := hbt (by simp_all)
  have HSC := Lib.hid (HSC0.out (by omega))
  have HRC := Lib.hid (HRC0.out (by omega))
  clear hbt hb2 HLC HLT HQ1 HB1 HSC0 HRC0 hma
  go_upto_region 4 with (go_at_call 38; (with_reducible refine (HGT.out _ HB2.out).mono ?_); rintro e9 w3 ⟨a7, c7, rfl, hf7, hb3⟩; (try simp only at hf7); have HF7 := Lib.hid hf7; have HB3 := Lib.hid (HB2.out.trans (hb3.mono HB2.out.size)); have HQ3 := Lib.hid (heap_below HQ2.out hb3); clear hf7 hb3)
  try simp only [HNV.out]
  have hal := alloc_below w3 (.cells #[.string tv, .slice a7 nv c7] 80)
  have HN7 := Lib.hid (heap_alloc_new w3 (.cells #[.string tv, .slice a7 nv c7] 80))
  have HB4 := Lib.hid (HB3.out.trans (hal.mono HB3.out.size))
  have HQ4 := Lib.hid (heap_below HQ3.out hal)
  have HF8 := Lib.hid (HF7.out.kept hal)
  obtain ⟨g7, hg7⟩ : ∃ q, w3.heap.size = q := ⟨_, rfl⟩
  rw [hg7] at HN7 ⊢
  clear hal hg7 q0 q1 q2 q3
  generalize w3.alloc (.cells #[.string tv, .slice a7 nv c7] 80) = W4 at *
  obtain ⟨q0, q1, q2, q3⟩ := ask_cells HQ4.out
  go_upto_region 5 with (go_at_call 39; (with_reducible refine (HRG.out _ HB4.out).mono ?_); rintro e9 w5 ⟨a8, c8, rfl, hf8, hb5⟩; (try simp only at hf8); have HF9 := Lib.hid hf8; have HF10 := Lib.hid (HF8.out.kept hb5); have HB5 := Lib.hid (HB4.out.trans (hb5.mono HB4.out.size)); have HQ5 := Lib.hid (heap_below HQ4.out hb5); have HN8 := Lib.hid (heap_below HN7.out hb5); clear hf8 hb5)
  try simp only [HNV.out]
  have hal := alloc_below w5 (.cells #[.string tv, .slice a8 nv c8] 80)
  have HN9 := Lib.hid (heap_alloc_new w5 (.cells #[.string tv, .slice a8 nv c8] 80))
  have HBY := Lib.hid (HB5.out.trans (hal.mono HB5.out.size))
  have HQ6 := Lib.hid (heap_below HQ5.out hal)
  have HFA := Lib.hid (HF9.out.kept hal)
  have HFB := Lib.hid (HF10.out.kept hal)
  have HN10 := Lib.hid (heap_below HN8.out hal)
  obtain ⟨g8, hg8⟩ : ∃ q, w5.heap.size = q := ⟨_, rfl⟩
  rw [hg8] at HN9 ⊢
  clear hal hg8 q0 q1 q2 q3
  generalize w5.alloc (.cells #[.string tv, .slice a8 nv c8] 80) = W6 at *
  have HQC := Lib.hid (fun W (h : Below W6.heap.size W6 W) => ask_cells (heap_below HQ6.out h))
  have HV7 := Lib.hid (fun W (h : Below W6.heap.size W6 W) => view_cells (heap_below HN10.out h))
  have HV8 := Lib.hid (fun W (h : Below W6.heap.size W6 W) => view_cells (heap_below HN9.out h))
  have HSV := Lib.hid (fun W (h : Below W6.heap.size W6 W) => (show Calls Try.prog 40 #[.agg #[.string tv, .slice a7 nv c7], .agg #[.string tv, .slice a8 nv c8]] W (Tells (.bool true) W) from by
    obtain ⟨x1, y1, e1, h1, -⟩ := HFB.out
    obtain ⟨x2, y2, e2, h2, -⟩ := HFA.out
    injection e1 with e1 _ e3
    injection e2 with e4 _ e6
    subst e1 e3 e4 e6
    rw [HNV.out] at h1 h2
    exact rsameview_c (h1.below h) (h2.below h) tv))
  clear HF7 HF8 HF9 HF10 HN7 HN8 HN9 HN10 HB3 HB4 HB5 HQ2 HQ3 HQ4 HQ5 HQ6 HFA HFB HGT HRG
  cases bv with
  | true =>
    refine wp_region_flow_tail 32 [none,none,none,none,none,none,none,none,none,none,none,none,none,none,none,none,none,none,none,none,none,none,none,none,none,none,none,none,none,none,none,none,none,none,none,none,none,none,none,none,none,none,none,none,none,none,none, some 0, some 1, some 2, some 3, some 4, some 5, some 6, some 7, some 8, some 9, some 10, some 11, some 12, some 13, some 14, some 15, some 16, some 17, some 18, some 19, some 20, some 21, some 22, some 23, some 24, some 25, some 26, some 27, some 28, some 29, some 30, some 31] (fun i => [undef,undef,undef,undef,undef,undef,undef,undef,undef,undef,undef,undef,undef,undef,undef,undef,undef,undef,undef,undef,undef,undef,undef,undef,undef,undef,undef,undef,undef,undef,undef,undef].getD i undef) [(fun v _ => v = .agg #[.string tv, .slice a7 nv c7]), (fun v _ => v = .agg #[.string tv, .slice a8 nv c8]), (fun v _ => v = .bool true), (fun v _ => v = .bool true), (fun v _ => v = .bool true), (fun v _ => v = .bool true), (fun v _ => v = .bool true), (fun v _ => v = .bool true), (fun v _ => v = .bool true), (fun v _ => v = .slice x n1 cap), (fun v _ => v = .slice xa ma capa), (fun v _ => v = .pointer (some ⟨B, 1, none⟩)), (fun v _ => v = .string tf), (fun v _ => v = .pointer (some ⟨B, 2, none⟩)), (fun v _ => v = .string tu), (fun v _ => v = .pointer (some ⟨B, 3, none⟩)), (fun v _ => v = .int .i64 qn), (VsV V), (fun v _ => v = .slice x n1 cap), (fun v _ => v = .slice xa ma capa), (fun v _ => v = .pointer (some ⟨B, 1, none⟩)), (fun v _ => v = .string tf), (fun v _ => v = .pointer (some ⟨B, 2, none⟩)), (fun v _ => v = .string tu), (fun v _ => v = .pointer (some ⟨B, 3, none⟩)), (fun v _ => v = .int .i64 qn), (VsV V), (fun v _ => v = .bool true), (fun v _ => v = .bool true), (fun v _ => v = .bool true), (fun v _ => v = .bool true), (fun v _ => v = .bool true)] (fun _ => False) (by kernel_rfl) (by kernel_rfl) (by kernel_rfl) rfl rfl rfl ?_ ?_ ?_
    · intro g hg v X Y hX hY hv
      simp only [List.mem_cons, List.not_mem_nil, or_false] at hg
      rcases hg with rfl | rfl | rfl | rfl | rfl | rfl | rfl | rfl | rfl | rfl | rfl | rfl | rfl | rfl | rfl | rfl | rfl | rfl | rfl | rfl | rfl | rfl | rfl | rfl | rfl | rfl | rfl | rfl | rfl | rfl | rfl | rfl
      all_goals first
        | exact hv
        | exact hv.kept hY
    · simp only [flowOpsF, List.take_succ_cons, List.take_zero, and_true]
      refine ⟨?_,?_,?_,?_,?_,?_,?_,?_,?_,?_,?_,?_,?_,?_,?_,?_,?_,?_,?_,?_,?_,?_,?_,?_,?_,?_,?_,?_,?_,?_,?_,?_⟩
      · intro xs W hW hn
        obtain ⟨p0, p1, -⟩ := HV7.out W hW
        simp only [flowAct, zwc, zwn]
        go_wp2_with (fail)
        exact ⟨rfl, _, rfl, Below.refl _ _, rfl, fun h => h.elim⟩
      · intro xs W hW hn
        obtain ⟨p0, p1, -⟩ := HV8.out W hW
        simp only [flowAct, zwc, zwn]
        go_wp2_with (fail)
        exact ⟨rfl, _, rfl, Below.refl _ _, rfl, fun h => h.elim⟩
      · intro xs W hW hn
        simp [flowNeeds, Region.binds] at hn
        simp only [flowAct, zwc, zwn]
        simp only [hn]
        go_wp2_with (go_at_call 40; (with_reducible refine (HSV.out W hW).mono ?_); rintro e9 w9 ⟨rfl, hb9⟩)
        exact ⟨rfl, _, rfl, hb9, rfl, fun h => h.elim⟩
      · intro xs W hW hn
        simp [flowNeeds, Region.binds] at hn
        simp only [flowAct, zwc, zwn]
        try simp only [hn]
        go_wp2_with (fail)
        exact ⟨rfl, _, rfl, Below.refl _ _, rfl, fun h => h.elim⟩
      · intro xs W hW hn
        simp [flowNeeds, Region.binds] at hn
        simp only [flowAct, zwc, zwn]
        try simp only [hn]
        go_wp2_with (fail)
        exact ⟨rfl, _, rfl, Below.refl _ _, rfl, fun h => h.elim⟩
      · intro xs W hW hn
        simp [flowNeeds, Region.binds] at hn
        simp only [flowAct, zwc, zwn]
        try simp only [hn]
        go_wp2_with (fail)
        exact ⟨rfl, _, rfl, Below.refl _ _, rfl, fun h => h.elim⟩
      · intro xs W hW hn
        simp [flowNeeds, Region.binds] at hn
        simp only [flowAct, zwc, zwn]
        try simp only [hn]
        go_wp2_with (fail)
        exact ⟨rfl, _, rfl, Below.refl _ _, rfl, fun h => h.elim⟩
      · intro xs W hW hn
        simp [flowNeeds, Region.binds] at hn
        simp only [flowAct, zwc, zwn]
        try simp only [hn]
        go_wp2_with (fail)
        exact ⟨rfl, _, rfl, Below.refl _ _, rfl, fun h => h.elim⟩
      · intro xs W hW hn
        simp [flowNeeds, Region.binds] at hn
        simp only [flowAct, zwc, zwn]
        try simp only [hn]
        go_wp2_with (fail)
        exact ⟨rfl, _, rfl, Below.refl _ _, rfl, fun h => h.elim⟩
      · intro xs W hW hn
        simp [flowNeeds, Region.binds] at hn
        simp only [flowAct, zwc, zwn]
        try simp only [hn]
        go_wp2_with (fail)
        exact ⟨rfl, _, rfl, Below.refl _ _, rfl, fun h => h.elim⟩
      · intro xs W hW hn
        simp [flowNeeds, Region.binds] at hn
        simp only [flowAct, zwc, zwn]
        try simp only [hn]
        go_wp2_with (fail)
        exact ⟨rfl, _, rfl, Below.refl _ _, rfl, fun h => h.elim⟩
      · intro xs W hW hn
        simp [flowNeeds, Region.binds] at hn
        simp only [flowAct, zwc, zwn]
        try simp only [hn]
        go_wp2_with (fail)
        exact ⟨rfl, _, rfl, Below.refl _ _, rfl, fun h => h.elim⟩
      · intro xs W hW hn
        obtain ⟨q0, q1, q2, q3⟩ := HQC.out W hW
        simp [flowNeeds, Region.binds] at hn
        simp only [flowAct, zwc, zwn]
        try simp only [hn]
        go_wp2_with (fail)
        exact ⟨rfl, _, rfl, Below.refl _ _, rfl, fun h => h.elim⟩
      · intro xs W hW hn
        simp [flowNeeds, Region.binds] at hn
        simp only [flowAct, zwc, zwn]
        try simp only [hn]
        go_wp2_with (fail)
        exact ⟨rfl, _, rfl, Below.refl _ _, rfl, fun h => h.elim⟩
      · intro xs W hW hn
        obtain ⟨q0, q1, q2, q3⟩ := HQC.out W hW
        simp [flowNeeds, Region.binds] at hn
        simp only [flowAct, zwc, zwn]
        try simp only [hn]
        go_wp2_with (fail)
        exact ⟨rfl, _, rfl, Below.refl _ _, rfl, fun h => h.elim⟩
      · intro xs W hW hn
        simp [flowNeeds, Region.binds] at hn
        simp only [flowAct, zwc, zwn]
        try simp only [hn]
        go_wp2_with (fail)
        exact ⟨rfl, _, rfl, Below.refl _ _, rfl, fun h => h.elim⟩
      · intro xs W hW hn
        obtain ⟨q0, q1, q2, q3⟩ := HQC.out W hW
        simp [flowNeeds, Region.binds] at hn
        simp only [flowAct, zwc, zwn]
        try simp only [hn]
        go_wp2_with (fail)
        exact ⟨rfl, _, rfl, Below.refl _ _, rfl, fun h => h.elim⟩
      · intro xs W hW hn
        simp [flowNeeds, Region.binds] at hn
        simp only [flowAct, zwc, zwn]
        simp only [hn]
        go_wp2_with (go_at_call 42; (with_reducible refine (HSC.out W (HBY.out.trans (hW.mono HBY.out.size))).mono ?_); rintro e9 w9 ⟨a9, c9, N9, rfl, hp9, hv9, hb9⟩)
        exact ⟨rfl, _, rfl, hb9, ⟨_, _, _, rfl, hv9, hp9⟩, fun h => h.elim⟩
      · intro xs W hW hn
        simp [flowNeeds, Region.binds] at hn
        simp only [flowAct, zwc, zwn]
        try simp only [hn]
        go_wp2_with (fail)
        exact ⟨rfl, _, rfl, Below.refl _ _, rfl, fun h => h.elim⟩
      · intro xs W hW hn
        simp [flowNeeds, Region.binds] at hn
        simp only [flowAct, zwc, zwn]
        try simp only [hn]
        go_wp2_with (fail)
        exact ⟨rfl, _, rfl, Below.refl _ _, rfl, fun h => h.elim⟩
      · intro xs W hW hn
        simp [flowNeeds, Region.binds] at hn
        simp only [flowAct, zwc, zwn]
        try simp only [hn]
        go_wp2_with (fail)
        exact ⟨rfl, _, rfl, Below.refl _ _, rfl, fun h => h.elim⟩
      · intro xs W hW hn
        obtain ⟨q0, q1, q2, q3⟩ := HQC.out W hW
        simp [flowNeeds, Region.binds] at hn
        simp only [flowAct, zwc, zwn]
        try simp only [hn]
        go_wp2_with (fail)
        exact ⟨rfl, _, rfl, Below.refl _ _, rfl, fun h => h.elim⟩
      · intro xs W hW hn
        simp [flowNeeds, Region.binds] at hn
        simp only [flowAct, zwc, zwn]
        try simp only [hn]
        go_wp2_with (fail)
        exact ⟨rfl, _, rfl, Below.refl _ _, rfl, fun h => h.elim⟩
      · intro xs W hW hn
        obtain ⟨q0, q1, q2, q3⟩ := HQC.out W hW
        simp [flowNeeds, Region.binds] at hn
        simp only [flowAct, zwc, zwn]
        try simp only [hn]
        go_wp2_with (fail)
        exact ⟨rfl, _, rfl, Below.refl _ _, rfl, fun h => h.elim⟩
      · intro xs W hW hn
        simp [flowNeeds, Region.binds] at hn
        simp only [flowAct, zwc, zwn]
        try simp only [hn]
        go_wp2_with (fail)
        exact ⟨rfl, _, rfl, Below.refl _ _, rfl, fun h => h.elim⟩
      · intro xs W hW hn
        obtain ⟨q0, q1, q2, q3⟩ := HQC.out W hW
        simp [flowNeeds, Region.binds] at hn
        simp only [flowAct, zwc, zwn]
        try simp only [hn]
        go_wp2_with (fail)
        exact ⟨rfl, _, rfl, Below.refl _ _, rfl, fun h => h.elim⟩
      · intro xs W hW hn
        simp [flowNeeds, Region.binds] at hn
        simp only [flowAct, zwc, zwn]
        simp only [hn]
        go_wp2_with (go_at_call 43; (with_reducible refine (HRC.out W (HBY.out.trans (hW.mono HBY.out.size))).mono ?_); rintro e9 w9 ⟨a9, c9, N9, rfl, hp9, hv9, hb9⟩)
        exact ⟨rfl, _, rfl, hb9, ⟨_, _, _, rfl, hv9, hp9⟩, fun h => h.elim⟩
      · intro xs W hW hn
        simp [flowNeeds, Region.binds] at hn
        obtain ⟨⟨aA, cA, NA, eA, hA, hpA⟩, ⟨aB, cB, NB, eB, hB, hpB⟩, h8⟩ := hn
        simp only [flowAct, zwc, zwn]
        simp only [h8, eA, eB]
        have hVW : Calls Try.prog 41 #[.slice aA NA.length cA, .slice aB NB.length cB] W (Tells (.bool true) W) := by
          have hl9 : NB.length = NA.length := by rw [← List.length_map (f := Vx.pr), hpB, ← hpA, List.length_map]
          rw [hl9] at hB ⊢
          exact rviews_c hA hB (hpA.trans hpB.symm)
        go_wp2_with (go_at_call 41; (with_reducible refine hVW.mono ?_); rintro e9 w9 ⟨rfl, hb9⟩)
        exact ⟨rfl, _, rfl, hb9, rfl, fun h => h.elim⟩
      · intro xs W hW hn
        simp [flowNeeds, Region.binds] at hn
        simp only [flowAct, zwc, zwn]
        try simp only [hn]
        go_wp2_with (fail)
        exact ⟨rfl, _, rfl, Below.refl _ _, rfl, fun h => h.elim⟩
      · intro xs W hW hn
        simp [flowNeeds, Region.binds] at hn
        simp only [flowAct, zwc, zwn]
        try simp only [hn]
        go_wp2_with (fail)
        exact ⟨rfl, _, rfl, Below.refl _ _, rfl, fun h => h.elim⟩
      · intro xs W hW hn
        simp [flowNeeds, Region.binds] at hn
        simp only [flowAct, zwc, zwn]
        try simp only [hn]
        go_wp2_with (go_at_call 30; (with_reducible refine (mlives_c _).mono ?_); rintro e9 w9 ⟨rfl, hb9⟩)
        exact ⟨rfl, _, rfl, hb9, rfl, fun h => h.elim⟩
      · intro xs W hW hn
        simp [flowNeeds, Region.binds] at hn
        simp only [flowAct, zwc, zwn]
        try simp only [hn]
        go_wp2_with (fail)
        exact ⟨rfl, _, rfl, Below.refl _ _, rfl, fun h => h.elim⟩
    · intro xs W hW hall hfr
      clear hfr
      simp only [flowAll, and_true, Nat.zero_add, Nat.reduceAdd] at hall
      obtain ⟨-,-,-,-,-,-,-,-,-,-,-,-,-,-,-,-,-,-,-,-,-,-,-,-,-,-,-,-,-,-,-, eL⟩ := hall
      simp only [flowAct, zwc, zwn, List.drop_succ_cons, List.drop_zero]
      simp only [eL]
      have HBW := Lib.hid (HBY.out.trans (hW.mono HBY.out.size))
      clear eL hW
      go_wp2
      go_ret
      exact ⟨rfl, HBW.out⟩
  | false =>
    refine wp_region_flow_tail 32 [none,none,none,none,none,none,none,none,none,none,none,none,none,none,none,none,none,none,none,none,none,none,none,none,none,none,none,none,none,none,none,none,none,none,none,none,none,none,none,none,none,none,none,none,none,none,none, some 0, some 1, some 2, some 3, some 4, some 5, some 6, some 7, some 8, some 9, some 10, some 11, some 12, some 13, some 14, some 15, some 16, some 17, some 18, some 19, some 20, some 21, some 22, some 23, some 24, some 25, some 26, some 27, some 28, some 29, some 30, some 31] (fun i => [undef,undef,undef,undef,undef,undef,undef,undef,undef,undef,undef,undef,undef,undef,undef,undef,undef,undef,undef,undef,undef,undef,undef,undef,undef,undef,undef,undef,undef,undef,undef,undef].getD i undef) [(fun v _ => v = .agg #[.string tv, .slice a7 nv c7]), (fun v _ => v = .agg #[.string tv, .slice a8 nv c8]), (fun v _ => v = .bool true), (fun v _ => v = .bool true), (fun v _ => v = .bool false), (fun v _ => v = .bool false), (fun v _ => v = .bool true), (fun v _ => v = .bool true), (fun v _ => v = .bool true), (fun v _ => v = .slice x n1 cap), (fun v _ => v = .slice xa ma capa), (fun v _ => v = .pointer (some ⟨B, 1, none⟩)), (fun v _ => v = .string tf), (fun v _ => v = .pointer (some ⟨B, 2, none⟩)), (fun v _ => v = .string tu), (fun v _ => v = .pointer (some ⟨B, 3, none⟩)), (fun v _ => v = .int .i64 qn), (VsV V), (fun v _ => v = .slice x n1 cap), (fun v _ => v = .slice xa ma capa), (fun v _ => v = .pointer (some ⟨B, 1, none⟩)), (fun v _ => v = .string tf), (fun v _ => v = .pointer (some ⟨B, 2, none⟩)), (fun v _ => v = .string tu), (fun v _ => v = .pointer (some ⟨B, 3, none⟩)), (fun v _ => v = .int .i64 qn), (VsV V), (fun v _ => v = .bool true), (fun v _ => v = .bool true), (fun v _ => v = .bool true), (fun v _ => v = .bool true), (fun v _ => v = .bool true)] (fun _ => False) (by kernel_rfl) (by kernel_rfl) (by kernel_rfl) rfl rfl rfl ?_ ?_ ?_
    · intro g hg v X Y hX hY hv
      simp only [List.mem_cons, List.not_mem_nil, or_false] at hg
      rcases hg with rfl | rfl | rfl | rfl | rfl | rfl | rfl | rfl | rfl | rfl | rfl | rfl | rfl | rfl | rfl | rfl | rfl | rfl | rfl | rfl | rfl | rfl | rfl | rfl | rfl | rfl | rfl | rfl | rfl | rfl | rfl | rfl
      all_goals first
        | exact hv
        | exact hv.kept hY
    · simp only [flowOpsF, List.take_succ_cons, List.take_zero, and_true]
      refine ⟨?_,?_,?_,?_,?_,?_,?_,?_,?_,?_,?_,?_,?_,?_,?_,?_,?_,?_,?_,?_,?_,?_,?_,?_,?_,?_,?_,?_,?_,?_,?_,?_⟩
      · intro xs W hW hn
        obtain ⟨p0, p1, -⟩ := HV7.out W hW
        simp only [flowAct, zwc, zwn]
        go_wp2_with (fail)
        exact ⟨rfl, _, rfl, Below.refl _ _, rfl, fun h => h.elim⟩
      · intro xs W hW hn
        obtain ⟨p0, p1, -⟩ := HV8.out W hW
        simp only [flowAct, zwc, zwn]
        go_wp2_with (fail)
        exact ⟨rfl, _, rfl, Below.refl _ _, rfl, fun h => h.elim⟩
      · intro xs W hW hn
        simp [flowNeeds, Region.binds] at hn
        simp only [flowAct, zwc, zwn]
        simp only [hn]
        go_wp2_with (go_at_call 40; (with_reducible refine (HSV.out W hW).mono ?_); rintro e9 w9 ⟨rfl, hb9⟩)
        exact ⟨rfl, _, rfl, hb9, rfl, fun h => h.elim⟩
      · intro xs W hW hn
        simp [flowNeeds, Region.binds] at hn
        simp only [flowAct, zwc, zwn]
        try simp only [hn]
        go_wp2_with (fail)
        exact ⟨rfl, _, rfl, Below.refl _ _, rfl, fun h => h.elim⟩
      · intro xs W hW hn
        simp [flowNeeds, Region.binds] at hn
        simp only [flowAct, zwc, zwn]
        try simp only [hn]
        go_wp2_with (fail)
        exact ⟨rfl, _, rfl, Below.refl _ _, rfl, fun h => h.elim⟩
      · intro xs W hW hn
        simp [flowNeeds, Region.binds] at hn
        simp only [flowAct, zwc, zwn]
        try simp only [hn]
        go_wp2_with (fail)
        exact ⟨rfl, _, rfl, Below.refl _ _, rfl, fun h => h.elim⟩
      · intro xs W hW hn
        simp [flowNeeds, Region.binds] at hn
        simp only [flowAct, zwc, zwn]
        try simp only [hn]
        go_wp2_with (fail)
        exact ⟨rfl, _, rfl, Below.refl _ _, rfl, fun h => h.elim⟩
      · intro xs W hW hn
        simp [flowNeeds, Region.binds] at hn
        simp only [flowAct, zwc, zwn]
        try simp only [hn]
        go_wp2_with (fail)
        exact ⟨rfl, _, rfl, Below.refl _ _, rfl, fun h => h.elim⟩
      · intro xs W hW hn
        simp [flowNeeds, Region.binds] at hn
        simp only [flowAct, zwc, zwn]
        try simp only [hn]
        go_wp2_with (fail)
        exact ⟨rfl, _, rfl, Below.refl _ _, rfl, fun h => h.elim⟩
      · intro xs W hW hn
        simp [flowNeeds, Region.binds] at hn
        simp only [flowAct, zwc, zwn]
        try simp only [hn]
        go_wp2_with (fail)
        exact ⟨rfl, _, rfl, Below.refl _ _, rfl, fun h => h.elim⟩
      · intro xs W hW hn
        simp [flowNeeds, Region.binds] at hn
        simp only [flowAct, zwc, zwn]
        try simp only [hn]
        go_wp2_with (fail)
        exact ⟨rfl, _, rfl, Below.refl _ _, rfl, fun h => h.elim⟩
      · intro xs W hW hn
        simp [flowNeeds, Region.binds] at hn
        simp only [flowAct, zwc, zwn]
        try simp only [hn]
        go_wp2_with (fail)
        exact ⟨rfl, _, rfl, Below.refl _ _, rfl, fun h => h.elim⟩
      · intro xs W hW hn
        obtain ⟨q0, q1, q2, q3⟩ := HQC.out W hW
        simp [flowNeeds, Region.binds] at hn
        simp only [flowAct, zwc, zwn]
        try simp only [hn]
        go_wp2_with (fail)
        exact ⟨rfl, _, rfl, Below.refl _ _, rfl, fun h => h.elim⟩
      · intro xs W hW hn
        simp [flowNeeds, Region.binds] at hn
        simp only [flowAct, zwc, zwn]
        try simp only [hn]
        go_wp2_with (fail)
        exact ⟨rfl, _, rfl, Below.refl _ _, rfl, fun h => h.elim⟩
      · intro xs W hW hn
        obtain ⟨q0, q1, q2, q3⟩ := HQC.out W hW
        simp [flowNeeds, Region.binds] at hn
        simp only [flowAct, zwc, zwn]
        try simp only [hn]
        go_wp2_with (fail)
        exact ⟨rfl, _, rfl, Below.refl _ _, rfl, fun h => h.elim⟩
      · intro xs W hW hn
        simp [flowNeeds, Region.binds] at hn
        simp only [flowAct, zwc, zwn]
        try simp only [hn]
        go_wp2_with (fail)
        exact ⟨rfl, _, rfl, Below.refl _ _, rfl, fun h => h.elim⟩
      · intro xs W hW hn
        obtain ⟨q0, q1, q2, q3⟩ := HQC.out W hW
        simp [flowNeeds, Region.binds] at hn
        simp only [flowAct, zwc, zwn]
        try simp only [hn]
        go_wp2_with (fail)
        exact ⟨rfl, _, rfl, Below.refl _ _, rfl, fun h => h.elim⟩
      · intro xs W hW hn
        simp [flowNeeds, Region.binds] at hn
        simp only [flowAct, zwc, zwn]
        simp only [hn]
        go_wp2_with (go_at_call 42; (with_reducible refine (HSC.out W (HBY.out.trans (hW.mono HBY.out.size))).mono ?_); rintro e9 w9 ⟨a9, c9, N9, rfl, hp9, hv9, hb9⟩)
        exact ⟨rfl, _, rfl, hb9, ⟨_, _, _, rfl, hv9, hp9⟩, fun h => h.elim⟩
      · intro xs W hW hn
        simp [flowNeeds, Region.binds] at hn
        simp only [flowAct, zwc, zwn]
        try simp only [hn]
        go_wp2_with (fail)
        exact ⟨rfl, _, rfl, Below.refl _ _, rfl, fun h => h.elim⟩
      · intro xs W hW hn
        simp [flowNeeds, Region.binds] at hn
        simp only [flowAct, zwc, zwn]
        try simp only [hn]
        go_wp2_with (fail)
        exact ⟨rfl, _, rfl, Below.refl _ _, rfl, fun h => h.elim⟩
      · intro xs W hW hn
        simp [flowNeeds, Region.binds] at hn
        simp only [flowAct, zwc, zwn]
        try simp only [hn]
        go_wp2_with (fail)
        exact ⟨rfl, _, rfl, Below.refl _ _, rfl, fun h => h.elim⟩
      · intro xs W hW hn
        obtain ⟨q0, q1, q2, q3⟩ := HQC.out W hW
        simp [flowNeeds, Region.binds] at hn
        simp only [flowAct, zwc, zwn]
        try simp only [hn]
        go_wp2_with (fail)
        exact ⟨rfl, _, rfl, Below.refl _ _, rfl, fun h => h.elim⟩
      · intro xs W hW hn
        simp [flowNeeds, Region.binds] at hn
        simp only [flowAct, zwc, zwn]
        try simp only [hn]
        go_wp2_with (fail)
        exact ⟨rfl, _, rfl, Below.refl _ _, rfl, fun h => h.elim⟩
      · intro xs W hW hn
        obtain ⟨q0, q1, q2, q3⟩ := HQC.out W hW
        simp [flowNeeds, Region.binds] at hn
        simp only [flowAct, zwc, zwn]
        try simp only [hn]
        go_wp2_with (fail)
        exact ⟨rfl, _, rfl, Below.refl _ _, rfl, fun h => h.elim⟩
      · intro xs W hW hn
        simp [flowNeeds, Region.binds] at hn
        simp only [flowAct, zwc, zwn]
        try simp only [hn]
        go_wp2_with (fail)
        exact ⟨rfl, _, rfl, Below.refl _ _, rfl, fun h => h.elim⟩
      · intro xs W hW hn
        obtain ⟨q0, q1, q2, q3⟩ := HQC.out W hW
        simp [flowNeeds, Region.binds] at hn
        simp only [flowAct, zwc, zwn]
        try simp only [hn]
        go_wp2_with (fail)
        exact ⟨rfl, _, rfl, Below.refl _ _, rfl, fun h => h.elim⟩
      · intro xs W hW hn
        simp [flowNeeds, Region.binds] at hn
        simp only [flowAct, zwc, zwn]
        simp only [hn]
        go_wp2_with (go_at_call 43; (with_reducible refine (HRC.out W (HBY.out.trans (hW.mono HBY.out.size))).mono ?_); rintro e9 w9 ⟨a9, c9, N9, rfl, hp9, hv9, hb9⟩)
        exact ⟨rfl, _, rfl, hb9, ⟨_, _, _, rfl, hv9, hp9⟩, fun h => h.elim⟩
      · intro xs W hW hn
        simp [flowNeeds, Region.binds] at hn
        obtain ⟨⟨aA, cA, NA, eA, hA, hpA⟩, ⟨aB, cB, NB, eB, hB, hpB⟩, h8⟩ := hn
        simp only [flowAct, zwc, zwn]
        simp only [h8, eA, eB]
        have hVW : Calls Try.prog 41 #[.slice aA NA.length cA, .slice aB NB.length cB] W (Tells (.bool true) W) := by
          have hl9 : NB.length = NA.length := by rw [← List.length_map (f := Vx.pr), hpB, ← hpA, List.length_map]
          rw [hl9] at hB ⊢
          exact rviews_c hA hB (hpA.trans hpB.symm)
        go_wp2_with (go_at_call 41; (with_reducible refine hVW.mono ?_); rintro e9 w9 ⟨rfl, hb9⟩)
        exact ⟨rfl, _, rfl, hb9, rfl, fun h => h.elim⟩
      · intro xs W hW hn
        simp [flowNeeds, Region.binds] at hn
        simp only [flowAct, zwc, zwn]
        try simp only [hn]
        go_wp2_with (fail)
        exact ⟨rfl, _, rfl, Below.refl _ _, rfl, fun h => h.elim⟩
      · intro xs W hW hn
        simp [flowNeeds, Region.binds] at hn
        simp only [flowAct, zwc, zwn]
        try simp only [hn]
        go_wp2_with (fail)
        exact ⟨rfl, _, rfl, Below.refl _ _, rfl, fun h => h.elim⟩
      · intro xs W hW hn
        simp [flowNeeds, Region.binds] at hn
        simp only [flowAct, zwc, zwn]
        try simp only [hn]
        go_wp2_with (go_at_call 30; (with_reducible refine (mlives_c _).mono ?_); rintro e9 w9 ⟨rfl, hb9⟩)
        exact ⟨rfl, _, rfl, hb9, rfl, fun h => h.elim⟩
      · intro xs W hW hn
        simp [flowNeeds, Region.binds] at hn
        simp only [flowAct, zwc, zwn]
        try simp only [hn]
        go_wp2_with (fail)
        exact ⟨rfl, _, rfl, Below.refl _ _, rfl, fun h => h.elim⟩
    · intro xs W hW hall hfr
      clear hfr
      simp only [flowAll, and_true, Nat.zero_add, Nat.reduceAdd] at hall
      obtain ⟨-,-,-,-,-,-,-,-,-,-,-,-,-,-,-,-,-,-,-,-,-,-,-,-,-,-,-,-,-,-,-, eL⟩ := hall
      simp only [flowAct, zwc, zwn, List.drop_succ_cons, List.drop_zero]
      simp only [eL]
      have HBW := Lib.hid (HBY.out.trans (hW.mono HBY.out.size))
      clear eL hW
      go_wp2
      go_ret
      exact ⟨rfl, HBW.out⟩
end Go.Proofs.Ytidbjmkfmfojdaa
end

