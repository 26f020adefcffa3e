/-
  Merged: MY MZ E1 E2 E3 E5 DJ ED EF A1 G0 E9 G1 G2 E7.
-/
import Derived.Deep.QuietTactic
import Derived.StillTail
import Derived.Lib.QuietBelow
import Derived.Test.YtidbjmkfmfojdaaRows
import Derived.WalkKit
import Derived.Lib.Hide
import Derived.BigQuiet
import Derived.BigRegion
import Derived.Deep.Cut
import Derived.Deep.MidRow
import Derived.Great.BuildSlice
import Derived.Outline
import Derived.OwnWalk
import Derived.Laws.Rows
import Derived.ChangeKeysEq
import Derived.Laws.StructEq
import Derived.WalkSpells
import Derived.WalkLawsBesides
import Derived.Laws.CopyOwn
import Derived.WalkSmall
import Derived.Lib.LaidTab
import Derived.Deep.RegionWith
import Derived.Lib.MinMax
import Derived.WideShapes
import Derived.ChangeSame
import Derived.OpenShut
import Derived.Deep.Slices
import Derived.Deep.AppendSrc
import Derived.Lib.AppendZerosOnto
import Derived.Lib.SliceRun
import Derived.Lib.Walk
import Derived.Lib.OthersKept
import Derived.Laws.RangeAny
import Derived.Maps.OwnOps
import Derived.Maps.Views
import Derived.ChangeSlices
import Derived.ChangeArms
import Derived.Deep.DeepAppendWide
import Derived.OrdersIn
import Derived.TacticsIn
import Derived.RangeFuncNested
import Derived.RangeFuncBound
import Derived.RangeFuncCalls
import Derived.RangeFuncLeaves
import Derived.Maps.AppendAt
import Derived.Shelf.Abstract
import Derived.OwnWalkIn
import Derived.TacticsInMore
import Derived.LoopNIn
import Derived.LoopIn
import Derived.Test.YtidbjmkfmfojdaaSK2

section
namespace Go.Proofs.Ytidbjmkfmfojdaa
open Go.RowKit Go Go.Sort
set_option linter.unusedVariables false
set_option maxRecDepth 20000

attribute [local go_sem] Oper.semAt_some
/-- The cells of a join, up to a place. -/
def zipN (ca cb : List Cl) : Nat → List Cl
  | 0 => ca
  | k + 1 => (zipN ca cb k).set k (joinC [ca.getD k Cl.zero, cb.getD k Cl.zero])
theorem zipN_len (ca cb : List Cl) : ∀ k, (zipN ca cb k).length = ca.length
  | 0 => rfl
  | k + 1 => by show ((zipN ca cb k).set k _).length = _; rw [List.length_set]; exact zipN_len ca cb k
theorem zipN_get (ca cb : List Cl) (i : Nat) (hi : i < ca.length) : ∀ k, (zipN ca cb k).getD i Cl.zero = if i < k then joinC [ca.getD i Cl.zero, cb.getD i Cl.zero] else ca.getD i Cl.zero
  | 0 => by simp [zipN]
  | k + 1 => by
    have ih := zipN_get ca cb i hi k
    have hl := zipN_len ca cb k
    show ((zipN ca cb k).set k _).getD i Cl.zero = _
    rw [List.getD_eq_getElem?_getD, List.getElem?_set]
    by_cases e : k = i
    · subst e; simp [hl, hi]
    · rw [if_neg e, ← List.getD_eq_getElem?_getD, ih]
      by_cases h : i < k
      · rw [if_pos h, if_pos (by omega)]
      · rw [if_neg h, if_neg (by omega)]
theorem rowidx0 (a b : ByteArray) (xa xb : Option Addr) (m n c e : Nat) (W : World) : (Instr.index 157 (.agg #[.string a, .slice xa m c, .string b, .slice xb n e]) (.int .i64 0)).run Try.prog W = .ok (.agg #[.string a, .slice xa m c]) W := by kernel_rfl
theorem rowidx1 (a b : ByteArray) (xa xb : Option Addr) (m n c e : Nat) (W : World) : (Instr.index 157 (.agg #[.string a, .slice xa m c, .string b, .slice xb n e]) (.int .i64 1)).run Try.prog W = .ok (.agg #[.string b, .slice xb n e]) W := by kernel_rfl
/-- Two rows of one key, put together, or why not. -/
def rjoinS (gs : List Grp) (ka : List UInt8) (ca : List Cl) (kb : List UInt8) (cb : List Cl) : List UInt8 × List Cl × Int :=
  if ¬ rgoodS gs ka ca = 0 then ([], [], rgoodS gs ka ca) else if ¬ rgoodS gs kb cb = 0 then ([], [], rgoodS gs kb cb) else if ¬ ka = kb then ([], [], 100) else (ka, zipN ca cb ca.length, 0)

/-- Between two rounds. -/
def JoinI (ca cb : List Cl) (oS oA oZ : Obj) (n₀ gg S B Z base : Nat) (w : World) (xs : List Nat) (W : World) : Prop :=
  W.heap[gg]? = some (.cells (cCells (zipN ca cb xs.length)).toArray 75 (0, 0)) ∧ W.heap[S]? = some oS ∧ W.heap[B]? = some oA ∧ W.heap[Z]? = some oZ ∧ Below n₀ w W ∧ base ≤ W.heap.size
theorem JoinI.own {ca cb : List Cl} {c1 c2 c3 : Array Value} {n₀ gg S B Z base B9 : Nat} {w : World} (h1 : n₀ ≤ B9) (h2 : n₀ ≤ base) : OwnT B9 133 (JoinI ca cb (.cells c1 30 (0, 0)) (.cells c2 30 (0, 0)) (.cells c3 30 (0, 0)) n₀ gg S B Z base w) := by
  rintro xs X Y row ⟨hg, hS, hB, hZ, hw, hs⟩ hgr hr
  exact ⟨turn_keep hgr hr hg (by decide), turn_keep hgr hr hS (by decide), turn_keep hgr hr hB (by decide), turn_keep hgr hr hZ (by decide), turn_below hgr hr h1 (Nat.le_trans h2 hs) hw, Nat.le_trans hs hgr.size⟩
theorem leaves_put {T : TypeId} {base : Nat} (W : World) (g k : Nat) (n9 s9 a9 b9 : Int) (g9 : Bool) (t9 : List UInt8) (d9 e9 : Int) : LeavesT T (fun j => j = g) base W (((((((((W.setCell ⟨g, k * 8, none⟩ (.int .i64 n9)).setCell ⟨g, k * 8 + 1, none⟩ (.int .i64 s9)).setCell ⟨g, k * 8 + 2, none⟩ (.int .i64 a9)).setCell ⟨g, k * 8 + 3, none⟩ (.int .i64 b9)).setCell ⟨g, k * 8 + 4, none⟩ (.bool g9)).setCell ⟨g, k * 8 + 5, none⟩ (.string (text t9))).setCell ⟨g, k * 8 + 6, none⟩ (.int .i64 d9)).setCell ⟨g, k * 8 + 7, none⟩ (.int .i64 e9))) :=
  ⟨(cells_put_below (w := W) (k := k) (Below.refl 0 W) (Nat.zero_le g) n9 s9 a9 b9 g9 t9 d9 e9).size, fun j o hj hb _ => (cells_put_other hb n9 s9 a9 b9 g9 t9 d9 e9).trans hj⟩

set_option maxRecDepth 100000 in
set_option maxHeartbeats 12800000 in
theorem rowjoin_c {w : World} {x xa xb : Option Addr} {n1 cap ma capa mb capb : Nat} {gs : List Grp} {ca cb : List Cl} (hg : Grs w x n1 cap gs) (hs : ∀ g ∈ gs, g.1.length ≤ 9223372036854775807)
    (hla : Cls w xa ma capa ca) (hxa : ∀ c ∈ ca, c.t.length ≤ 9223372036854775807) (ka : List UInt8) (hka : ka.length ≤ 9223372036854775807)
    (hlb : Cls w xb mb capb cb) (hxb : ∀ c ∈ cb, c.t.length ≤ 9223372036854775807) (kb : List UInt8) (hkb : kb.length ≤ 9223372036854775807) :
    Calls Try.prog 81 #[.slice x n1 cap, .agg #[.string (text ka), .slice xa ma capa], .agg #[.string (text kb), .slice xb mb capb]] w (RowPost (rjoinS gs ka ca kb cb) w) := by
  have hgl := hg.len
  have hal := hla.len
  have hbl := hlb.len
  have hlea := hla.le
  have hmaxa := hla.max
  have hleb := hlb.le
  have hmaxb := hlb.max
  have hGA := fun W (h : Below w.heap.size w W) => rowgood_c (hg.below h) hs (hla.below h) hxa ka hka
  have hGB := fun W (h : Below w.heap.size w W) => rowgood_c (hg.below h) hs (hlb.below h) hxb kb hkb
  have hCP := fun (hm : ma ≤ 1000000) W (h : Below w.heap.size w W) => copied_c (hla.below h) hm (text ka)
  have HIA := Lib.hid (@rgood_inv gs ka ca)
  have HIB := Lib.hid (@rgood_inv gs kb cb)
  have hts := text_same ka kb
  obtain ⟨RA, hRA⟩ : ∃ z, rgoodS gs ka ca = z := ⟨_, rfl⟩
  obtain ⟨RB, hRB⟩ : ∃ z, rgoodS gs kb cb = z := ⟨_, rfl⟩
  have hRV : rjoinS gs ka ca kb cb = if ¬ RA = 0 then ([], [], RA) else if ¬ RB = 0 then ([], [], RB) else if ¬ ka = kb then ([], [], 100) else (ka, zipN ca cb ca.length, 0) := by unfold rjoinS; rw [hRA, hRB]
  simp only [hRA] at hGA
  simp only [hRB] at hGB
  rw [hRA] at HIA
  rw [hRB] at HIB
  obtain ⟨RV, hRVe⟩ : ∃ z, rjoinS gs ka ca kb cb = z := ⟨_, rfl⟩
  rw [hRVe] at hRV ⊢
  obtain ⟨tka, htka⟩ : ∃ z, text ka = z := ⟨_, rfl⟩
  obtain ⟨tkb, htkb⟩ : ∃ z, text kb = z := ⟨_, rfl⟩
  rw [htka] at hGA hCP ⊢
  rw [htkb] at hGB ⊢
  rw [htka, htkb] at hts
  obtain ⟨KE, hKE⟩ : ∃ z, decide (ka = kb) = z := ⟨_, rfl⟩
  rw [hKE] at hts
  have HTK := Lib.hid htka
  have HRV := Lib.hid hRV
  have HKE := Lib.hid hKE
  have HGA := Lib.hid hGA
  have HGB := Lib.hid hGB
  have HCP := Lib.hid hCP
  have hb := ((alloc_below w (.cells #[.string tka, .slice xa ma capa] 30)).alloc (by simp) (.cells #[.string tkb, .slice xb mb capb] 30)).alloc (by simp; omega) (.cells #[.string ⟨#[]⟩, .slice none 0 0] 30)
  have hra : (((w.alloc (.cells #[.string tka, .slice xa ma capa] 30)).alloc (.cells #[.string tkb, .slice xb mb capb] 30)).alloc (.cells #[.string ⟨#[]⟩, .slice none 0 0] 30)).heap[w.heap.size]? = some (.cells #[.string tka, .slice xa ma capa] 30 (0, 0)) := (Below.heap_alloc _ _ _ (by simp; omega)).trans ((Below.heap_alloc _ _ _ (by simp)).trans (heap_alloc_new w _))
  have hrb := heap_below (heap_alloc_new (w.alloc (.cells #[.string tka, .slice xa ma capa] 30)) (.cells #[.string tkb, .slice xb mb capb] 30)) (alloc_below _ (.cells #[.string ⟨#[]⟩, .slice none 0 0] 30))
  have hz := heap_alloc_new ((w.alloc (.cells #[.string tka, .slice xa ma capa] 30)).alloc (.cells #[.string tkb, .slice xb mb capb] 30)) (.cells #[.string ⟨#[]⟩, .slice none 0 0] 30)
  simp only [World.size_alloc] at hrb hz
  clear hGA hGB hCP hRA hRB hRV hRVe htka htkb hKE
  have hi0 := rowidx0 tka tkb xa xb ma mb capa capb
  have hi1 := rowidx1 tka tkb xa xb ma mb capa capb
  refine (callsIn_wide (n := 3)).1 ?_
  refine callsIn_of_wp_marks Try.func81 rfl trivial ?_ rfl
  simp only [Try.ntmps81, List.size_toArray, List.length_cons, List.length_nil, Nat.reduceAdd, Nat.reduceSub, Array.replicate_succ, Array.replicate_zero, List.push_toArray, List.append_toArray, List.nil_append, List.cons_append]
  refine wpIn_wide.2 ?_
  go_upto_region 1 with (fail)
  obtain ⟨B, hB⟩ : ∃ q, w.heap.size = q := ⟨_, rfl⟩
  have HBe := Lib.hid hB
  rw [hB] at hra hrb hz ⊢
  clear hB
  generalize ((w.alloc (.cells #[.string tka, .slice xa ma capa] 30)).alloc (.cells #[.string tkb, .slice xb mb capb] 30)).alloc (.cells #[.string ⟨#[]⟩, .slice none 0 0] 30) = W1 at *
  obtain ⟨r0, r1, -⟩ := row_cells hra
  obtain ⟨s0, s1, -⟩ := row_cells hrb
  have HA1 := Lib.hid hra
  have HR1 := Lib.hid hrb
  have HZ1 := Lib.hid hz
  have HB1 := Lib.hid hb
  clear hra hrb hz hb
  go_wp2
  refine wp_loop_rounds 3 ?_
  rw [rounds_succ]
  obtain ⟨u0, u1, -⟩ := row_cells (heap_alloc_new W1 (.cells #[.string tka, .slice xa ma capa] 30))
  have HBa := Lib.hid (HB1.out.alloc HB1.out.size (.cells #[.string tka, .slice xa ma capa] 30))
  have hal1 := alloc_below W1 (.cells #[.string tka, .slice xa ma capa] 30)
  have HA2 := Lib.hid (heap_below HA1.out hal1)
  have HR2 := Lib.hid (heap_below HR1.out hal1)
  have HZ2 := Lib.hid (heap_below HZ1.out hal1)
  have hbad : ∀ (f : Int), RV = ([], [], f) → ∀ (W : World), Below w.heap.size w W → RowPost RV w (.returned (.tuple #[.agg #[.string ⟨#[]⟩, .slice none 0 0], .int .i64 f])) ((W.setCell ⟨B + 1 + 1, 0, none⟩ (.string ⟨#[]⟩)).setCell ⟨B + 1 + 1, 1, none⟩ (.slice none 0 0)) := fun f h W hW => by
    rw [h]
    exact ⟨_, rfl, OwnC.nil _ _, (hW.setCell (p := ⟨B + 1 + 1, 0, none⟩) (by have := HBe.out; simp; omega) _).setCell (p := ⟨B + 1 + 1, 1, none⟩) (by have := HBe.out; simp; omega) _⟩
  have HBAD := Lib.hid hbad
  clear hbad hal1 r0 r1 s0 s1
  by_cases h0 : RA = 0
  · subst h0
    go_wp2_with (go_at_call 60; (with_reducible refine (HGA.out _ HBa.out).mono ?_); rintro e9 w2 ⟨rfl, hb2⟩; have HB2 := Lib.hid (HBa.out.trans (hb2.mono HBa.out.size)); have HA3 := Lib.hid (heap_below HA2.out hb2); have HR3 := Lib.hid (heap_below HR2.out hb2); have HZ3 := Lib.hid (heap_below HZ2.out hb2); clear hb2 u0 u1)
    rw [rounds_succ]
    clear HA1 HA2 HR1 HR2 HZ1 HZ2 HB1 HBa HGA
    obtain ⟨u0, u1, -⟩ := row_cells (heap_alloc_new w2 (.cells #[.string tkb, .slice xb mb capb] 30))
    have HBb := Lib.hid (HB2.out.alloc HB2.out.size (.cells #[.string tkb, .slice xb mb capb] 30))
    have hal2 := alloc_below w2 (.cells #[.string tkb, .slice xb mb capb] 30)
    have HA4 := Lib.hid (heap_below HA3.out hal2)
    have HR4 := Lib.hid (heap_below HR3.out hal2)
    have HZ4 := Lib.hid (heap_below HZ3.out hal2)
    clear hal2 HA3 HR3 HZ3
    by_cases h1 : RB = 0
    · subst h1
      go_wp2_with (go_at_call 60; (with_reducible refine (HGB.out _ HBb.out).mono ?_); rintro e9 w3 ⟨rfl, hb3⟩; have HB3 := Lib.hid (HBb.out.trans (hb3.mono HBb.out.size)); have HA5 := Lib.hid (heap_below HA4.out hb3); have HR5 := Lib.hid (heap_below HR4.out hb3); have HZ5 := Lib.hid (heap_below HZ4.out hb3); clear hb3 u0 u1)
      rw [rounds_succ]
      clear HA4 HR4 HZ4 HBb HGB HB2
      obtain ⟨r0, r1, -⟩ := row_cells HA5.out
      obtain ⟨s0, s1, -⟩ := row_cells HR5.out
      cases KE with
      | false =>
        have HRR := Lib.hid (show RV = ([], [], 100) by rw [HRV.out, if_neg (by simp), if_neg (by simp), if_pos (of_decide_eq_false HKE.out)])
        obtain ⟨z0, z1, zf⟩ := row_cells HZ5.out
        go_wp2
        exact ⟨_, res_cell_tmp rfl _ _ (B + 1 + 1) 30 _ (0, 0) _ (.int .i64 100) rfl rfl (row_set HZ5.out ⟨#[]⟩ (.slice none 0 0)) Try.underlying30 rfl (by kernel_rfl), HBAD.out _ HRR.out _ HB3.out⟩
      | true =>
        have hkk : ka = kb := of_decide_eq_true HKE.out
        have HRR := Lib.hid (show RV = (ka, zipN ca cb ca.length, 0) by rw [HRV.out, if_neg (by simp), if_neg (by simp), if_neg (by simp [hkk])])
        have hpg := (HIA.out (by first | rfl | trivial)).1
        have hla2 := (HIA.out (by first | rfl | trivial)).2.2.1
        have hlb2 := (HIB.out (by first | rfl | trivial)).2.2.1
        have h4 := pgood_len hpg
        have hma : ma = n1 := by omega
        have hmb : mb = n1 := by omega
        subst hma
        subst hmb
        have hm4 : mb ≤ 4 := by omega
        clear HIA HIB hpg hla2 hlb2 hkk HRV HKE HBAD
        go_upto_region 11 with (go_at_call 103; (with_reducible refine (HCP.out (by omega) _ HB3.out).mono ?_); rintro e9 w5 ⟨gg, rfl, hgg, hgc, hb5⟩)
        have hal := alloc_below w5 (.cells #[.string tka, .slice (some ⟨gg, 0, none⟩) mb mb] 30)
        have HS6 := Lib.hid (heap_alloc_new w5 (.cells #[.string tka, .slice (some ⟨gg, 0, none⟩) mb mb] 30))
        have HG6 := Lib.hid (heap_below hgc hal)
        have HA6 := Lib.hid (heap_below (heap_below HA5.out hb5) hal)
        have HR6 := Lib.hid (heap_below (heap_below HR5.out hb5) hal)
        have HZ6 := Lib.hid (heap_below (heap_below HZ5.out hb5) hal)
        have HB6 := Lib.hid ((HB3.out.trans (hb5.mono HB3.out.size)).trans (hal.mono (Nat.le_trans HB3.out.size hb5.size)))
        have HGB := Lib.hid (Nat.le_trans HB3.out.size hgg)
        have HGS := Lib.hid (show gg < w5.heap.size from (Array.getElem?_eq_some_iff.1 hgc).1)
        have HZS := Lib.hid (show B + 1 + 1 < gg from Nat.lt_of_lt_of_le (Array.getElem?_eq_some_iff.1 HZ5.out).1 hgg)
        obtain ⟨S, hS⟩ : ∃ q, w5.heap.size = q := ⟨_, rfl⟩
        rw [hS] at HS6 HGS ⊢
        generalize w5.alloc (.cells #[.string tka, .slice (some ⟨gg, 0, none⟩) mb mb] 30) = W6 at *
        clear hal hb5 hgc hgg hS r0 r1 s0 s1 HA5 HR5 HZ5 HB3 HCP hi0 hi1 hts
        obtain ⟨s0, s1, -⟩ := row_cells HR6.out
        go_wp2_with (go_at_call 85; (with_reducible refine places_c.mono ?_); rintro e9 w7 ⟨rfl, rfl⟩)
        have bL := heap_alloc_new W6 (.cells #[.slice x mb cap] 60)
        have bR := heap_alloc_new (W6.alloc (.cells #[.slice x mb cap] 60)) (.cells #[.string tkb, .slice xb mb capb] 30)
        replace bL := (Below.heap_alloc (W6.alloc (.cells #[.slice x mb cap] 60)) (.cells #[.string tkb, .slice xb mb capb] 30) W6.heap.size (by simp)).trans bL
        simp only [World.size_alloc] at bR
        have hbW := (alloc_below W6 (.cells #[.slice x mb cap] 60)).alloc (by simp) (.cells #[.string tkb, .slice xb mb capb] 30)
        have hsz : ((W6.alloc (.cells #[.slice x mb cap] 60)).alloc (.cells #[.string tkb, .slice xb mb capb] 30)).heap.size = W6.heap.size + 1 + 1 := by simp
        have hSlt : S < W6.heap.size := (Array.getElem?_eq_some_iff.1 HS6.out).1
        obtain ⟨W0, hW0⟩ : ∃ W0, (W6.alloc (.cells #[.slice x mb cap] 60)).alloc (.cells #[.string tkb, .slice xb mb capb] 30) = W0 := ⟨_, rfl⟩
        rw [hW0] at bL bR hbW hsz ⊢
        clear hW0
        have hB0 := HB6.out.trans (hbW.mono HB6.out.size)
        have hS0 := heap_below HS6.out hbW
        have hA0 := heap_below HA6.out hbW
        have hZ0 := heap_below HZ6.out hbW
        have hG0' := heap_below HG6.out hbW
        obtain ⟨G0, hG⟩ : ∃ q, W6.heap.size = q := ⟨_, rfl⟩
        rw [hG] at bL bR hsz hSlt ⊢
        have HSZ := Lib.hid hsz
        have HSL := Lib.hid hSlt
        obtain ⟨Q9, hQ9⟩ : ∃ q, w2.heap.size = q := ⟨_, rfl⟩
        rw [hQ9]
        have hgs0 := HGS.out
        have hzs0 := HZS.out
        clear hG hbW hQ9 s0 s1 HS6 HG6 HA6 HR6 HZ6 HB6
        refine (wpIn_wide (n := 3)).1 ?_
        refine wpIn_range_tells (F := Fence.wide) rfl (by omega) (gf := 107) (lb := #[.pointer (some ⟨G0, 0, none⟩), .pointer (some ⟨G0 + 1, 0, none⟩)]) rfl trivial (enters_of Try.func107 (by kernel_rfl) rfl)
          (places_tells hg hlb hB0 2 G0 (G0 + 1) (by omega) (by omega) bL bR) KP.trans (fun W l o o' hl h ho _ => KP.putObj W l o o' (by have := hB0.size; omega) (by rintro k (rfl | rfl) <;> omega) h)
          (fun xs X Y row hs hg hr => hs) (fun xs X Y row hs hg hr => hs) (fun _ => rfl)
          (JoinI ca cb (.cells #[.string tka, .slice (some ⟨gg, 0, none⟩) mb mb] 30 (0, 0)) (.cells #[.string tka, .slice xa mb capa] 30 (0, 0)) (.cells #[.string ⟨#[]⟩, .slice none 0 0] 30 (0, 0)) w.heap.size gg S B (B + 1 + 1) W0.heap.size w) (fun _ _ _ => False) (JoinI.own hB0.size hB0.size) (fun c xs X Y row hs hg hr => hs)
          ⟨hG0', hS0, hA0, hZ0, hB0, Nat.le_refl _⟩
          (PlaceA gs cb (fun q k => #[.slice x mb cap, .agg #[.string tka, .slice xa mb capa], .agg #[.string tkb, .slice xb mb capb], undef, .pointer (some ⟨B, 0, none⟩), .pointer (some ⟨B + 1, 0, none⟩), .pointer (some ⟨B + 1 + 1, 0, none⟩), .int .i64 0, undef, .pointer (some ⟨Q9, 0, none⟩), .int .i64 0, .pointer (some ⟨S, 0, none⟩), .pointer (some ⟨q, 0, none⟩), .agg #[.string tka, .slice xa mb capa], .agg #[.string tkb, .slice xb mb capb], .agg #[.string tka, .slice xa mb capa, .string tkb, .slice xb mb capb], .int .i64 2, .bool false, .agg #[.string tkb, .slice xb mb capb], .slice x mb cap, .agg #[.string tkb, .slice xb mb capb], .int .i64 0, .int .i64 0, .bool false, undef,undef, .int .i64 2, .pointer (some ⟨B, 0, none⟩), .string tka, .pointer (some ⟨B + 1, 0, none⟩), .string tkb, .bool false, undef, .agg #[.string tka, .slice xa mb capa], .agg #[.string tka, .slice (some ⟨gg, 0, none⟩) mb mb], .slice x mb cap, .agg #[.string tkb, .slice xb mb capb], .func (.func 107) #[] #[.pointer (some ⟨G0, 0, none⟩), .pointer (some ⟨G0 + 1, 0, none⟩)], .agg (placeA gs cb k), undef,undef,undef,undef,undef,undef,undef,undef,undef,undef,undef,undef,undef,undef,undef,undef])) (fun k a' => PlaceA.own k a') ?assign ?body ?done ?stop
        case assign =>
          rintro q pre k W K hI - hK
          obtain ⟨y, hck⟩ : ∃ y, cb.getD k Cl.zero = y := ⟨_, rfl⟩
          dsimp only [penc]
          rw [hck]
          obtain ⟨n, s, a, b, g, t, d, e⟩ := y
          dsimp only
          gi_wp2
          have h3 := HSZ.out
          have h5 := hI.2.2.2.2.2
          have h6 := hB0.size
          refine hK _ _ ((KeepsOthers.alloc _ _).from _) (KP.of_below (by omega) ((Below.refl _ W).alloc (Nat.le_refl _) _)) ((JoinI.own (B9 := W0.heap.size) hB0.size hB0.size).from.alloc _ hI) ⟨W.heap.size, ?_,?_⟩
          · unfold placeA; rw [hck]; exact heap_alloc_new W _
          · dsimp only; unfold placeA; rw [hck]; rfl
        case body =>
          rintro q pre k a' W ⟨hgW, hSW, hAW, hZW, hw, hs2⟩ ⟨g9, hpq, rfl⟩ ⟨rfl, hlt⟩
          obtain ⟨k, hkp⟩ : ∃ k, pre.length = k := ⟨_, rfl⟩
          rw [hkp] at hlt hpq hgW ⊢
          unfold placeA at hpq
          dsimp only [placeA]
          have hlk : k < (zipN ca cb k).length := by rw [zipN_len]; omega
          have hkm : (k : Int) < (mb : Int) := by omega
          have hkc : (k : Int) < (capa : Int) := by omega
          obtain ⟨bk, off, rfl, hat⟩ := hla.at hlt
          have hzg := zipN_get ca cb k (by omega) k
          rw [if_neg (by omega)] at hzg
          have hzs : zipN ca cb (k + 1) = (zipN ca cb k).set k (joinC [ca.getD k Cl.zero, cb.getD k Cl.zero]) := rfl
          obtain ⟨⟨nm, pk⟩, hgk⟩ : ∃ y, gs.getD k ([], 0) = y := ⟨_, rfl⟩
          obtain ⟨y, hck⟩ : ∃ y, cb.getD k Cl.zero = y := ⟨_, rfl⟩
          obtain ⟨z, hdk⟩ : ∃ y, ca.getD k Cl.zero = y := ⟨_, rfl⟩
          rw [hgk, hck] at hpq ⊢
          rw [hdk] at hat hzg
          rw [hdk, hck] at hzs
          obtain ⟨n, s, a, b, g, t, d, e⟩ := y
          obtain ⟨n', s', a', b', g', t', d', e'⟩ := z
          obtain ⟨y, hj⟩ : ∃ y, joinC [⟨n', s', a', b', g', t', d', e'⟩, ⟨n, s, a, b, g, t, d, e⟩] = y := ⟨_, rfl⟩
          rw [hj] at hzs
          obtain ⟨n9, s9, a9, b9, g9b, t9, d9, e9⟩ := y
          dsimp only at hpq ⊢
          have HJ9 := Lib.hid hj
          have HZG := Lib.hid hzg
          have HZN := Lib.hid hzs
          have HPW := Lib.hid (fun W1 (h : Below W.heap.size W W1) => hat W1 (hw.trans (h.mono hw.size)))
          have HSW := Lib.hid (fun W1 (h : Below W.heap.size W W1) => row_cells (heap_below hSW h))
          have HAW := Lib.hid (fun W1 (h : Below W.heap.size W W1) => row_cells (heap_below hAW h))
          have HQW := Lib.hid (fun W1 (h : Below W.heap.size W W1) => And.intro (show W1.cell? ⟨g9, 0, none⟩ = some (.int .i64 (k : Int)) by rw [cell_of_row _ g9 0 _ _ (0, 0) (heap_below hpq h)]; rfl) (place_cells (heap_below hpq h)))
          have HH := Lib.hid (And.intro hgW (And.intro hSW (And.intro hAW (And.intro hZW (And.intro hw hs2)))))
          clear hat hj hgk hck hdk hzg hzs hgW hSW hAW hZW hw hs2 hpq
          gi_wp2_with fail
          refine wpIn_region_flow (fun x y => Below x.heap.size x y) 15 [none,none,none,none,none,none,none,none,none,none,none,none,none,none,none,none,none,none,none,none,none,none,none,none,none,none,none,none,none,none,none,none,none,none,none,none,none,none,none, some 0, some 1, some 2, some 3, some 4, some 5, some 6, some 7, some 8, some 9, some 10, some 11, some 12, some 13, some 14, none] (fun i => [undef,undef,undef,undef,undef,undef,undef,undef,undef,undef,undef,undef,undef,undef,undef].getD i undef) [(fun v _ => v = .pointer (some ⟨S, 1, none⟩)), (fun v _ => v = .slice (some ⟨gg, 0, none⟩) mb mb), (fun v _ => v = .pointer (some ⟨g9, 0, none⟩)), (fun v _ => v = .int .i64 (k : Int)), (fun v _ => v = .pointer (some ⟨B, 1, none⟩)), (fun v _ => v = .slice (some ⟨bk, off, none⟩) mb capa), (fun v _ => v = .pointer (some ⟨g9, 0, none⟩)), (fun v _ => v = .int .i64 (k : Int)), (fun v _ => v = .pointer (some ⟨bk, off + k * 8, none⟩)), (fun v _ => v = .agg #[.int .i64 n', .int .i64 s', .int .i64 a', .int .i64 b', .bool g', .string (text t'), .int .i64 d', .int .i64 e']), (fun v _ => v = .pointer (some ⟨g9, 2, none⟩)), (fun v _ => v = .agg #[.int .i64 n, .int .i64 s, .int .i64 a, .int .i64 b, .bool g, .string (text t), .int .i64 d, .int .i64 e]), (ClsV [⟨n', s', a', b', g', t', d', e'⟩, ⟨n, s, a, b, g, t, d, e⟩]), (fun v _ => v = .agg #[.int .i64 n9, .int .i64 s9, .int .i64 a9, .int .i64 b9, .bool g9b, .string (text t9), .int .i64 d9, .int .i64 e9]), (fun v _ => v = .pointer (some ⟨gg, k * 8, none⟩))] (fun _ => False) (by kernel_rfl) (by kernel_rfl) (by kernel_rfl) rfl rfl rfl (fun a b c h1 h2 => h1.trans (h2.mono h1.size)) ⟨rfl, rfl, rfl, Nat.le_refl _, fun _ _ => rfl⟩ ?_ ?_ ?_
          · intro g hg v X Y hX hY hv
            simp only [List.mem_cons, List.not_mem_nil, or_false] at hg
            rcases hg with rfl | rfl | rfl | rfl | rfl | rfl | rfl | rfl | rfl | rfl | rfl | rfl | rfl | rfl | rfl
            all_goals first
              | exact hv
              | exact hv.kept hY
          · simp only [flowOpsI, List.take_succ_cons, List.take_zero, and_true]
            refine ⟨?_,?_,?_,?_,?_,?_,?_,?_,?_,?_,?_,?_,?_,?_,?_⟩
            · intro xs W1 hW hn
              simp only [flowAct, zwc, zwn]
              gi_wp2_with (fail)
              exact ⟨rfl, _, rfl, Below.refl _ _, rfl, fun h => h.elim⟩
            · intro xs W1 hW hn
              obtain ⟨-, f1, -⟩ := HSW.out W1 hW
              simp [flowNeeds, Region.binds] at hn
              simp only [flowAct, zwc, zwn]
              try simp only [hn]
              gi_wp2_with (fail)
              exact ⟨rfl, _, rfl, Below.refl _ _, rfl, fun h => h.elim⟩
            · intro xs W1 hW hn
              simp only [flowAct, zwc, zwn]
              gi_wp2_with (fail)
              exact ⟨rfl, _, rfl, Below.refl _ _, rfl, fun h => h.elim⟩
            · intro xs W1 hW hn
              obtain ⟨c, c0, c1, c2, c3, c4, c5, c6, c7⟩ := HQW.out W1 hW
              simp [flowNeeds, Region.binds] at hn
              simp only [flowAct, zwc, zwn]
              try simp only [hn]
              gi_wp2_with (fail)
              exact ⟨rfl, _, rfl, Below.refl _ _, rfl, fun h => h.elim⟩
            · intro xs W1 hW hn
              simp only [flowAct, zwc, zwn]
              gi_wp2_with (fail)
              exact ⟨rfl, _, rfl, Below.refl _ _, rfl, fun h => h.elim⟩
            · intro xs W1 hW hn
              obtain ⟨-, f2, -⟩ := HAW.out W1 hW
              simp [flowNeeds, Region.binds] at hn
              simp only [flowAct, zwc, zwn]
              try simp only [hn]
              gi_wp2_with (fail)
              exact ⟨rfl, _, rfl, Below.refl _ _, rfl, fun h => h.elim⟩
            · intro xs W1 hW hn
              simp only [flowAct, zwc, zwn]
              gi_wp2_with (fail)
              exact ⟨rfl, _, rfl, Below.refl _ _, rfl, fun h => h.elim⟩
            · intro xs W1 hW hn
              obtain ⟨c, c0, c1, c2, c3, c4, c5, c6, c7⟩ := HQW.out W1 hW
              simp [flowNeeds, Region.binds] at hn
              simp only [flowAct, zwc, zwn]
              try simp only [hn]
              gi_wp2_with (fail)
              exact ⟨rfl, _, rfl, Below.refl _ _, rfl, fun h => h.elim⟩
            · intro xs W1 hW hn
              simp [flowNeeds, Region.binds] at hn
              simp only [flowAct, zwc, zwn]
              try simp only [hn]
              gi_wp2_with (fail)
              exact ⟨rfl, _, rfl, Below.refl _ _, rfl, fun h => h.elim⟩
            · intro xs W1 hW hn
              obtain ⟨p0, p1, p2, p3, p4, p5, p6, p7⟩ := HPW.out W1 hW
              simp only at p0 p1 p2 p3 p4 p5 p6 p7
              simp [flowNeeds, Region.binds] at hn
              simp only [flowAct, zwc, zwn]
              try simp only [hn]
              gi_wp2_with (fail)
              exact ⟨rfl, _, rfl, Below.refl _ _, rfl, fun h => h.elim⟩
            · intro xs W1 hW hn
              simp only [flowAct, zwc, zwn]
              gi_wp2_with (fail)
              exact ⟨rfl, _, rfl, Below.refl _ _, rfl, fun h => h.elim⟩
            · intro xs W1 hW hn
              obtain ⟨c, c0, c1, c2, c3, c4, c5, c6, c7⟩ := HQW.out W1 hW
              simp [flowNeeds, Region.binds] at hn
              simp only [flowAct, zwc, zwn]
              try simp only [hn]
              gi_wp2_with (fail)
              exact ⟨rfl, _, rfl, Below.refl _ _, rfl, fun h => h.elim⟩
            · intro xs W1 hW hn
              simp [flowNeeds, Region.binds] at hn
              simp only [flowAct, zwc, zwn]
              simp only [hn]
              gi_wp2_with (fail)
              exact ⟨rfl, _, rfl, alloc_below _ _, ⟨_, _, _, rfl, cls2 _ _ _ _ _ _ _ _ _ _ _ _ _ _ _ _ _⟩, fun h => h.elim⟩
            · intro xs W1 hW hn
              simp [flowNeeds, Region.binds] at hn
              obtain ⟨a8, n8, k8, hv8, hc8⟩ := hn
              have HJJ := Lib.hid (join_c hc8)
              rw [HJ9.out] at HJJ
              clear hc8
              simp only [flowAct, zwc, zwn]
              simp only [hv8]
              gi_wp2_with (fail)
              refine ⟨trivial, (CallsIn.inRound q (callsIn_wide.2 HJJ.out)).mono ?_⟩
              rintro e8 w9 ⟨rfl, hb9⟩
              try gi_wp2_with (fail)
              exact ⟨rfl, _, rfl, hb9, rfl, fun h => h.elim⟩
            · intro xs W1 hW hn
              simp [flowNeeds, Region.binds] at hn
              simp only [flowAct, zwc, zwn]
              try simp only [hn]
              gi_wp2_with (fail)
              exact ⟨rfl, _, rfl, Below.refl _ _, rfl, fun h => h.elim⟩
          · intro xs W1 hW hall hfr
            clear hfr
            simp only [flowAll, and_true, Nat.zero_add, Nat.reduceAdd] at hall
            obtain ⟨-,-,-,-,-,-,-,-,-,-,-,-,-, y13, y14⟩ := hall
            simp only [flowAct, zwc, zwn, List.drop_succ_cons, List.drop_zero]
            simp only [y13, y14]
            obtain ⟨hgW0, hSW0, hAW0, hZW0, hw0, hs0⟩ := HH.out
            have hgW := heap_below hgW0 hW
            have hq : ∀ j, j < 8 → W1.cell? ⟨gg, k * 8 + j, none⟩ = ((zipN ca cb k).getD k Cl.zero).arr[j]? := fun j hj => by
              rw [cell_of_row W1 gg _ _ _ (0, 0) hgW, List.getElem?_toArray, cCells_get (zipN ca cb k) k j hlk hj]
            rw [HZG.out] at hq
            have q0 : W1.cell? ⟨gg, k * 8, none⟩ = some (.int .i64 n') := hq 0 (by omega)
            have q1 : W1.cell? ⟨gg, k * 8 + 1, none⟩ = some (.int .i64 s') := hq 1 (by omega)
            have q2 : W1.cell? ⟨gg, k * 8 + 2, none⟩ = some (.int .i64 a') := hq 2 (by omega)
            have q3 : W1.cell? ⟨gg, k * 8 + 3, none⟩ = some (.int .i64 b') := hq 3 (by omega)
            have q4 : W1.cell? ⟨gg, k * 8 + 4, none⟩ = some (.bool g') := hq 4 (by omega)
            have q5 : W1.cell? ⟨gg, k * 8 + 5, none⟩ = some (.string (text t')) := hq 5 (by omega)
            have q6 : W1.cell? ⟨gg, k * 8 + 6, none⟩ = some (.int .i64 d') := hq 6 (by omega)
            have q7 : W1.cell? ⟨gg, k * 8 + 7, none⟩ = some (.int .i64 e') := hq 7 (by omega)
            have hqf : ∀ j, W1.frozen? ⟨gg, j, none⟩ = false := fun j => frozen_of_row _ gg j _ _ hgW
            have hgs := HGS.out
            have hzs := HZS.out
            have hsl := HSL.out
            have h3 := HSZ.out
            have h6 := hB0.size
            have hbe := HBe.out
            have hgb := HGB.out
            have hput := cells_put hgW hlk n9 s9 a9 b9 g9b t9 d9 e9
            have hL : LeavesT 133 (fun j => j = gg) W0.heap.size W ((((((((W1.setCell ⟨gg, k * 8, none⟩ (.int .i64 n9)).setCell ⟨gg, k * 8 + 1, none⟩ (.int .i64 s9)).setCell ⟨gg, k * 8 + 2, none⟩ (.int .i64 a9)).setCell ⟨gg, k * 8 + 3, none⟩ (.int .i64 b9)).setCell ⟨gg, k * 8 + 4, none⟩ (.bool g9b)).setCell ⟨gg, k * 8 + 5, none⟩ (.string (text t9))).setCell ⟨gg, k * 8 + 6, none⟩ (.int .i64 d9)).setCell ⟨gg, k * 8 + 7, none⟩ (.int .i64 e9)) := (LeavesT.below hW).trans (leaves_put W1 gg k n9 s9 a9 b9 g9b t9 d9 e9)
            have hbP : Below w.heap.size W ((((((((W1.setCell ⟨gg, k * 8, none⟩ (.int .i64 n9)).setCell ⟨gg, k * 8 + 1, none⟩ (.int .i64 s9)).setCell ⟨gg, k * 8 + 2, none⟩ (.int .i64 a9)).setCell ⟨gg, k * 8 + 3, none⟩ (.int .i64 b9)).setCell ⟨gg, k * 8 + 4, none⟩ (.bool g9b)).setCell ⟨gg, k * 8 + 5, none⟩ (.string (text t9))).setCell ⟨gg, k * 8 + 6, none⟩ (.int .i64 d9)).setCell ⟨gg, k * 8 + 7, none⟩ (.int .i64 e9)) := cells_put_below (k := k) (hW.mono (show w.heap.size ≤ W.heap.size by omega)) hgb n9 s9 a9 b9 g9b t9 d9 e9
            have HR := Lib.hid (show RoundPost W0.heap.size (KP w.heap.size (two9 G0 (G0 + 1))) (fun _ => True) (JoinI ca cb (.cells #[.string tka, .slice (some ⟨gg, 0, none⟩) mb mb] 30 (0, 0)) (.cells #[.string tka, .slice (some ⟨bk, off, none⟩) mb capa] 30 (0, 0)) (.cells #[.string ⟨#[]⟩, .slice none 0 0] 30 (0, 0)) w.heap.size gg S B (B + 1 + 1) W0.heap.size w) (fun _ _ _ => False) pre k W .normal { tmps := #[], defers := [] } ((((((((W1.setCell ⟨gg, k * 8, none⟩ (.int .i64 n9)).setCell ⟨gg, k * 8 + 1, none⟩ (.int .i64 s9)).setCell ⟨gg, k * 8 + 2, none⟩ (.int .i64 a9)).setCell ⟨gg, k * 8 + 3, none⟩ (.int .i64 b9)).setCell ⟨gg, k * 8 + 4, none⟩ (.bool g9b)).setCell ⟨gg, k * 8 + 5, none⟩ (.string (text t9))).setCell ⟨gg, k * 8 + 6, none⟩ (.int .i64 d9)).setCell ⟨gg, k * 8 + 7, none⟩ (.int .i64 e9)) from
              ⟨hL.keeps (by rintro j rfl; omega), ⟨hbP, fun j o hj ho => hL.same j o ho (by rcases hj with rfl | rfl <;> omega) (.inl (by rcases hj with rfl | rfl <;> omega))⟩, trivial, ⟨by rw [List.length_append, List.length_singleton, hkp, HZN.out]; exact hput, hL.same _ _ hSW0 (by omega) (.inl (by omega)), hL.same _ _ hAW0 (by omega) (.inl (by omega)), hL.same _ _ hZW0 (by omega) (.inl (by omega)), hw0.trans hbP, Nat.le_trans hs0 hL.size⟩⟩)
            clear hq hput hL hbP hgW hgW0 hSW0 hAW0 hZW0 hw0 hs0 hgs hzs hsl h3 h6 hbe hgb
            gi_wp2
            exact HR.out

        case done =>
          rintro D xs W hD hxs ⟨hgW, hSW, hAW, hZW, hw, hs2⟩ hK
          rw [show xs.length = mb from hxs] at hgW
          obtain ⟨s0, s1, -⟩ := row_cells hSW
          obtain ⟨z0, z1, zf⟩ := row_cells hZW
          have HDB := Lib.hid (show S < D by have := HSZ.out; have := HSL.out; omega)
          have HGS2 := Lib.hid HGS.out
          have hDz : D ≠ B + 1 + 1 := by have := HDB.out; omega
          have hDg : D ≠ gg := by have := HDB.out; omega
          have hgz : gg ≠ B + 1 + 1 := by omega
          have hkX : ((W.setCell ⟨B + 1 + 1, 0, none⟩ (.string tka)).setCell ⟨B + 1 + 1, 1, none⟩ (.slice (some ⟨gg, 0, none⟩) mb mb)).heap[D]? = some (.deferred (some [])) :=
            (Below.heap_setCell _ ⟨B + 1 + 1, 1, none⟩ _ D hDz).trans ((Below.heap_setCell _ ⟨B + 1 + 1, 0, none⟩ (.string tka) D hDz).trans hK)
          have hgX := (Below.heap_setCell (W.setCell ⟨B + 1 + 1, 0, none⟩ (.string tka)) ⟨B + 1 + 1, 1, none⟩ (.slice (some ⟨gg, 0, none⟩) mb mb) gg hgz).trans ((Below.heap_setCell W ⟨B + 1 + 1, 0, none⟩ (.string tka) gg hgz).trans hgW)
          have hwX := (hw.setCell (p := ⟨B + 1 + 1, 0, none⟩) (by have := HBe.out; simp; omega) (.string tka)).setCell (p := ⟨B + 1 + 1, 1, none⟩) (by have := HBe.out; simp; omega) (.slice (some ⟨gg, 0, none⟩) mb mb)
          have HKX := Lib.hid hkX
          have HFB := Lib.hid (hwX.trans (belowK_b (w := w) (Nat.le_refl _) _ D _ (.deferred none) (by have := HDB.out; have := HBe.out; omega) hkX rfl rfl))
          have HFG := Lib.hid ((World.putObj_heap_other (o := .deferred none) (show gg ≠ D from hDg.symm)).trans hgX)
          have HFZ := Lib.hid ((World.putObj_heap_other (o := .deferred none) (show B + 1 + 1 ≠ D from hDz.symm)).trans (row_set hZW tka (.slice (some ⟨gg, 0, none⟩) mb mb)))
          clear hgW hSW hAW hZW hw hs2 hK hkX hgX hwX hxs hDz hDg hgz
          go_wp2
          refine ⟨by simp, .inl ⟨_, _, rfl, run_takeDeferred HKX.out, ?_⟩⟩
          refine ⟨_, res_cell_tmp rfl _ _ (B + 1 + 1) 30 _ (0, 0) _ (.int .i64 0) rfl rfl HFZ.out Try.underlying30 rfl (by kernel_rfl), ?_⟩
          rw [HRR.out]
          exact ⟨_, by rw [HTK.out], by rw [hal]; exact own_lit HFG.out HGB.out (by rw [zipN_len]; exact hal) (by omega), HFB.out⟩
        case stop => exact fun D c pre W hD _ hf => hf.elim
    · have h1n : (RB != 0) = true := by simpa using h1
      have HRR := Lib.hid (show RV = ([], [], RB) by rw [HRV.out, if_neg (by simp), if_pos h1])
      clear h1
      go_wp2_with (go_at_call 60; (with_reducible refine (HGB.out _ HBb.out).mono ?_); rintro e9 w3 ⟨rfl, hb3⟩; have HB3 := Lib.hid (HBb.out.trans (hb3.mono HBb.out.size)); have HZ5 := Lib.hid (heap_below HZ4.out hb3); clear hb3 u0 u1; obtain ⟨z0, z1, zf⟩ := row_cells HZ5.out)
      exact ⟨_, res_cell_tmp rfl _ _ (B + 1 + 1) 30 _ (0, 0) _ (.int .i64 RB) rfl rfl (row_set HZ5.out ⟨#[]⟩ (.slice none 0 0)) Try.underlying30 rfl (by kernel_rfl), HBAD.out _ HRR.out _ HB3.out⟩
  · have h0n : (RA != 0) = true := by simpa using h0
    have HRR := Lib.hid (show RV = ([], [], RA) by rw [HRV.out, if_pos h0])
    clear h0
    go_wp2_with (go_at_call 60; (with_reducible refine (HGA.out _ HBa.out).mono ?_); rintro e9 w2 ⟨rfl, hb2⟩; have HB2 := Lib.hid (HBa.out.trans (hb2.mono HBa.out.size)); have HZ3 := Lib.hid (heap_below HZ2.out hb2); clear hb2 u0 u1; obtain ⟨z0, z1, zf⟩ := row_cells HZ3.out)
    exact ⟨_, res_cell_tmp rfl _ _ (B + 1 + 1) 30 _ (0, 0) _ (.int .i64 RA) rfl rfl (row_set HZ3.out ⟨#[]⟩ (.slice none 0 0)) Try.underlying30 rfl (by kernel_rfl), HBAD.out _ HRR.out _ HB2.out⟩
end Go.Proofs.Ytidbjmkfmfojdaa
end

section
namespace Go.Proofs.Ytidbjmkfmfojdaa
open Go.RowKit Go Go.Sort
set_option linter.unusedVariables false
set_option maxRecDepth 20000

theorem zip_at (ca cb : List Cl) {i : Nat} (hi : i < ca.length) : (zipN ca cb ca.length).getD i Cl.zero = joinC [ca.getD i Cl.zero, cb.getD i Cl.zero] := by
  rw [zipN_get ca cb i hi, if_pos hi]
/-- What is asked of each cell of a good row. -/
theorem good_at {gs : List Grp} {k : List UInt8} {cs : List Cl} (h : rgoodS gs k cs = 0) {i : Nat} (hi : i < cs.length) : (cs.getD i Cl.zero).good (gs.getD i ([], 0)).2 = true := by
  obtain ⟨_, _, h3, h4⟩ := rgood_inv h
  exact h4 i (by omega)
theorem zip_good {gs : List Grp} {k : List UInt8} {ca cb : List Cl} (ha : rgoodS gs k ca = 0) (hb : rgoodS gs k cb = 0) : rgoodS gs k (zipN ca cb ca.length) = 0 := by
  obtain ⟨h1, h2, h3, h4⟩ := rgood_inv ha
  obtain ⟨_, _, h5, h6⟩ := rgood_inv hb
  refine rgood_yes h1 h2 (by rw [zipN_len]; exact h3) fun j hj => ?_
  show ((zipN ca cb ca.length).getD j Cl.zero).good _ = true
  rw [zip_at ca cb (by omega)]
  refine good_join (pgood_pol h1 j hj) fun c hc => ?_
  simp only [List.mem_cons, List.not_mem_nil, or_false] at hc
  rcases hc with rfl | rfl
  · exact h4 j hj
  · exact h6 j hj
theorem set_getD (cs : List Cl) (i j : Nat) (x : Cl) : (cs.set i x).getD j Cl.zero = if i = j ∧ i < cs.length then x else cs.getD j Cl.zero := by
  simp only [List.getD_eq_getElem?_getD, List.getElem?_set]
  by_cases e : i = j
  · subst e
    by_cases h : i < cs.length
    · simp [h]
    · simp [h]
  · simp [e]
end Go.Proofs.Ytidbjmkfmfojdaa
end

section
namespace Go.Proofs.Ytidbjmkfmfojdaa
open Go.RowKit Go Go.Sort
set_option linter.unusedVariables false
set_option maxRecDepth 20000

/-- A write: key, group, whether it is gone, value. -/
structure Wr where
  k : List UInt8
  i : Int
  g : Bool
  v : List UInt8
def Wr.zero : Wr := ⟨[], 0, false, []⟩
def Wr.arr (c : Wr) : Array Value := #[.string (text c.k), .int .i64 c.i, .bool c.g, .string (text c.v)]
theorem wr_size (c : Wr) : c.arr.size = 4 := rfl
/-- A list of writes in memory; one of the call's own. -/
abbrev Wrs := Ls 4 Wr.arr Wr.zero
theorem wr_at {W : World} {b o : Nat} {c : Wr} (h : ∀ j v, c.arr[j]? = some v → W.cell? ⟨b, o + j, none⟩ = some v) : W.cell? ⟨b, o, none⟩ = some (.string (text c.k)) ∧ W.cell? ⟨b, o + 1, none⟩ = some (.int .i64 c.i) ∧ W.cell? ⟨b, o + 2, none⟩ = some (.bool c.g) ∧ W.cell? ⟨b, o + 3, none⟩ = some (.string (text c.v)) :=
  ⟨h 0 _ rfl, h 1 _ rfl, h 2 _ rfl, h 3 _ rfl⟩
theorem Wrs.place {w : World} {a : Option Addr} {n cap : Nat} {l : List Wr} (h : Wrs w a n cap l) {k : Nat} (hk : k < n) : ∃ b off, a = some ⟨b, off, none⟩ ∧ ∀ W, Below w.heap.size w W → W.cell? ⟨b, off + k * 4, none⟩ = some (.string (text (l.getD k Wr.zero).k)) ∧ W.cell? ⟨b, off + k * 4 + 1, none⟩ = some (.int .i64 (l.getD k Wr.zero).i) ∧ W.cell? ⟨b, off + k * 4 + 2, none⟩ = some (.bool (l.getD k Wr.zero).g) ∧ W.cell? ⟨b, off + k * 4 + 3, none⟩ = some (.string (text (l.getD k Wr.zero).v)) := by
  obtain ⟨b, off, rfl, hat⟩ := h.at hk
  exact ⟨b, off, rfl, fun W hb => wr_at (hat W hb)⟩
theorem wr_cells {W : World} {q : Nat} {k : List UInt8} {i : Int} {g : Bool} {v : List UInt8} (h : W.heap[q]? = some (.cells #[.string (text k), .int .i64 i, .bool g, .string (text v)] 94 (0, 0))) : W.cell? ⟨q, 0, none⟩ = some (.string (text k)) ∧ W.cell? ⟨q, 1, none⟩ = some (.int .i64 i) ∧ W.cell? ⟨q, 2, none⟩ = some (.bool g) ∧ W.cell? ⟨q, 3, none⟩ = some (.string (text v)) := by
  refine ⟨?_,?_,?_,?_⟩ <;> (rw [cell_of_row _ q _ _ _ (0, 0) h]; rfl)
/-- P12's order of writes: by key, then by group. -/
def aheadS (a b : Wr) : Bool := if (a.k == b.k) = false then Op.bytesLess a.k b.k else decide (a.i < b.i)

end Go.Proofs.Ytidbjmkfmfojdaa
end

section
namespace Go.Proofs.Ytidbjmkfmfojdaa
open Go.RowKit Go Go.Sort
set_option linter.unusedVariables false
set_option maxRecDepth 20000

/-- Which write may be, by a schema of n groups. -/
def mayS (n : Nat) (c : Wr) : Bool := decide (keyS c.k = 0) && (decide (0 ≤ c.i) && (decide (c.i < (n : Int)) && (decide (c.v.length ≤ 64) && (!c.g || c.v == []))))
end Go.Proofs.Ytidbjmkfmfojdaa
end

section
namespace Go.Proofs.Ytidbjmkfmfojdaa
open Go.RowKit Go Go.Sort
set_option linter.unusedVariables false
set_option maxRecDepth 20000

/-- What of a change's head may not be. -/
def headBad (site seq n s a b : Int) (m : Nat) : Bool :=
  (site != 1 && site != 2) || decide (seq < 1) || decide (1099511627776 < seq) || !sgood n s || (s != site) || !vgood a b || ((if site = 1 then a else b) != seq) || decide ((m : Int) < 1) || decide (8 < (m : Int))
/-- Whether the write at a place may be there. -/
def wAt (n1 : Nat) (l : List Wr) (k : Nat) : Bool := mayS n1 (l.getD k Wr.zero) && (decide (k = 0) || aheadS (l.getD (k - 1) Wr.zero) (l.getD k Wr.zero))
def chgoodS (gs : List Grp) (site seq n s a b : Int) (l : List Wr) : Int := if ¬ pgoodS gs = 0 then pgoodS gs else if headBad site seq n s a b l.length = true then 120 else if (List.range l.length).all (wAt gs.length l) = true then 0 else 120
theorem ch_inv {gs : List Grp} {site seq n s a b : Int} {l : List Wr} (h : chgoodS gs site seq n s a b l = 0) : pgoodS gs = 0 ∧ headBad site seq n s a b l.length = false ∧ ∀ k, k < l.length → wAt gs.length l k = true := by
  unfold chgoodS at h
  by_cases h1 : pgoodS gs = 0
  · rw [if_neg (not_not_intro h1)] at h
    by_cases h2 : headBad site seq n s a b l.length = true
    · rw [if_pos h2] at h; cases h
    · rw [if_neg h2] at h
      by_cases h3 : (List.range l.length).all (wAt gs.length l) = true
      · exact ⟨h1, by simpa using h2, fun k hk => List.all_eq_true.1 h3 k (List.mem_range.2 hk)⟩
      · rw [if_neg h3] at h; cases h
  · rw [if_pos h1] at h; exact absurd h h1
theorem ch_cells {W : World} {q : Nat} {site seq n s a b : Int} {x2 : Option Addr} {m cap2 : Nat} (h : W.heap[q]? = some (.cells #[.int .i64 site, .int .i64 seq, .int .i64 n, .int .i64 s, .int .i64 a, .int .i64 b, .slice x2 m cap2] 91 (0, 0))) :
    W.cell? ⟨q, 0, none⟩ = some (.int .i64 site) ∧ W.cell? ⟨q, 1, none⟩ = some (.int .i64 seq) ∧ W.cell? ⟨q, 2, none⟩ = some (.int .i64 n) ∧ W.cell? ⟨q, 3, none⟩ = some (.int .i64 s) ∧ W.cell? ⟨q, 4, none⟩ = some (.int .i64 a) ∧ W.cell? ⟨q, 5, none⟩ = some (.int .i64 b) ∧ W.cell? ⟨q, 6, none⟩ = some (.slice x2 m cap2) := by
  refine ⟨?_,?_,?_,?_,?_,?_,?_⟩ <;> (rw [cell_of_row _ q _ _ _ (0, 0) h]; rfl)
theorem wr_mem {l : List Wr} {k : Nat} (h : k < l.length) : l.getD k Wr.zero ∈ l := by
  rw [List.getD_eq_getElem?_getD, List.getElem?_eq_getElem h]; exact List.getElem_mem _
/-- The writes are short. -/
def WShort (l : List Wr) : Prop := ∀ c ∈ l, c.k.length ≤ 9223372036854775807 ∧ c.v.length ≤ 9223372036854775807

end Go.Proofs.Ytidbjmkfmfojdaa
end

section
namespace Go.Proofs.Ytidbjmkfmfojdaa
open Go.RowKit Go Go.Sort
set_option linter.unusedVariables false
set_option maxRecDepth 20000

theorem head_ok {site seq n s a b : Int} {m : Nat} (h : headBad site seq n s a b m = false) : (site = 1 ∨ site = 2) ∧ 1 ≤ seq ∧ seq ≤ 1099511627776 ∧ sgood n s = true ∧ s = site ∧ vgood a b = true ∧ (if site = 1 then a else b) = seq ∧ 1 ≤ m ∧ m ≤ 8 := by
  unfold headBad at h
  simp only [Bool.or_eq_false_iff, Bool.and_eq_false_iff, Bool.not_eq_false', bne_eq_false_iff_eq, decide_eq_false_iff_not] at h
  obtain ⟨⟨⟨⟨⟨⟨⟨⟨h1, h2⟩, h3⟩, h4⟩, h5⟩, h6⟩, h7⟩, h8⟩, h9⟩ := h
  exact ⟨h1, by omega, by omega, h4, h5, h6, h7, by omega, by omega⟩
theorem may_few {n : Nat} {c : Wr} (h : mayS n c = true) : c.k.length ≤ 32 ∧ 1 ≤ c.k.length ∧ 0 ≤ c.i ∧ c.i < (n : Int) ∧ c.v.length ≤ 64 ∧ (c.g = true → c.v = []) := by
  unfold mayS at h
  simp only [Bool.and_eq_true, decide_eq_true_eq] at h
  obtain ⟨h1, h2, h3, h4, h5⟩ := h
  have hk : ¬ c.k = [] ∧ c.k.length ≤ 32 := by
    unfold keyS at h1
    split at h1
    · cases h1
    · split at h1
      · cases h1
      · rename_i h6 h7; exact ⟨h6, by omega⟩
  refine ⟨hk.2, ?_, h2, h3, h4, fun hg => ?_⟩
  · rcases Nat.eq_zero_or_pos c.k.length with h | h
    · exact absurd (List.eq_nil_of_length_eq_zero h) hk.1
    · exact h
  · rw [hg] at h5
    simpa using h5
theorem w_at {n1 : Nat} {l : List Wr} {k : Nat} (h : wAt n1 l k = true) : mayS n1 (l.getD k Wr.zero) = true := by
  unfold wAt at h
  rw [Bool.and_eq_true] at h
  exact h.1
end Go.Proofs.Ytidbjmkfmfojdaa
end

section
namespace Go.Proofs.Ytidbjmkfmfojdaa
open Go Go.RowKit
set_option linter.unusedVariables false

section
variable {P : Program} {ops : Array Oper} {md : Region.Mode}

/-- How one operation ends: the invariant holds with it. -/
def InvEnd (Inv : (Nat → Bool) → (Nat → Value) → World → Prop) (a : Act) (o : Oper) (i : Nat) (L : Nat → Bool) (xs : Nat → Value) (e : Exit) (a' : Act) (w' : World) : Prop :=
  e = .normal ∧ ∃ v, a' = a.put o.dst v ∧ Inv (fun j => if j = i then true else L j) (fun j => if j = i then v else xs j) w'

theorem wpAny_inv {Q : Exit → Act → World → Prop} (act : (Nat → Value) → Act) (Inv : (Nat → Bool) → (Nat → Value) → World → Prop)
    (hwf : ∀ i o, ops[i]? = some o → ∀ e ∈ o.after, Region.binds md e = true → e.on < i)
    (hput : ∀ i o xs v, ops[i]? = some o → (act xs).put o.dst v = act (fun j => if j = i then v else xs j))
    (hop : ∀ i o, ops[i]? = some o → ∀ L xs w, Inv L xs w → L i = false → (∀ e ∈ o.after, Region.binds md e = true → L e.on = true) → wpList P ops (InvEnd Inv (act xs) o i L xs) [o] (act xs) w)
    (hend : ∀ L xs w, Inv L xs w → (∀ i, i < ops.size → L i = true) → Q .normal (act xs) w) :
    ∀ (f : Nat) (listed : Array Bool) (xs : Nat → Value) (w : World), Inv (fun i => listed.getD i true) xs w → listed.size = ops.size → listed.toList.count false ≤ f → wpAny P md ops Q f listed (act xs) w := by
  have hnone : ∀ (listed : Array Bool), listed.size = ops.size → Region.ready md ops listed = [] → ∀ i, i < ops.size → listed.getD i true = true := by
    intro listed hs hr i
    induction i using Nat.strongRecOn with
    | _ i ih =>
      intro hi
      cases hl : listed.getD i true with
      | true => rfl
      | false =>
        have : i ∈ Region.ready md ops listed := by
          refine mem_ready.2 ⟨hl, ops[i], by simp [hi], fun e he hb => ?_⟩
          have hlt := hwf i ops[i] (by simp [hi]) e he hb
          have h1 := ih e.on hlt (by omega)
          have h2 : e.on < listed.size := by omega
          simp only [Array.getD_eq_getD_getElem?, Array.getElem?_eq_getElem h2, Option.getD_some] at h1 ⊢
          exact h1
        rw [hr] at this
        cases this
  intro f
  induction f with
  | zero =>
    intro listed xs w hI hs hc
    have hall : ∀ i, i < ops.size → listed.getD i true = true := by
      intro i hi
      cases hl : listed.getD i true with
      | true => rfl
      | false =>
        have h2 : i < listed.size := by omega
        have h3 : listed[i] = false := by simpa [Array.getD_eq_getD_getElem?, Array.getElem?_eq_getElem h2] using hl
        have : false ∈ listed.toList := by rw [← h3]; simp
        have := List.count_pos_iff.2 this
        omega
    refine ⟨?_, hend _ xs w hI hall⟩
    cases hr : Region.ready md ops listed with
    | nil => rfl
    | cons i r =>
      have hm : i ∈ Region.ready md ops listed := by rw [hr]; simp
      obtain ⟨hun, o, ho, _⟩ := mem_ready.1 hm
      have := hall i (Array.getElem?_eq_some_iff.1 ho).1
      rw [hun] at this
      cases this
  | succ f ih =>
    intro listed xs w hI hs hc
    refine ⟨fun hr => hend _ xs w hI (hnone listed hs hr), fun i hi => ?_⟩
    obtain ⟨hun, o, ho, hall⟩ := mem_ready.1 hi
    have hilt := (Array.getElem?_eq_some_iff.1 ho).1
    have h2 : i < listed.size := by omega
    refine wpOp_of_one ho (fun a' w' h => ?_) (fun e a' w' h => h.1) (hop i o ho _ xs w hI hun fun e he hb => ?_)
    · obtain ⟨_, v, rfl, hI'⟩ := h
      rw [hput i o xs v ho]
      refine ih _ _ w' ?_ (by simpa using hs) ?_
      · have hfe : (fun j => (listed.setIfInBounds i true).getD j true) = (fun j => if j = i then true else listed.getD j true) := by
          funext j
          by_cases hji : j = i
          · subst hji
            simp [Array.getD_eq_getD_getElem?, h2]
          · rw [getD_set_ne true (Ne.symm hji), if_neg hji]
        rw [hfe]
        exact hI'
      · have h3 : listed[i] = false := by simpa [Array.getD_eq_getD_getElem?, Array.getElem?_eq_getElem h2] using hun
        have := count_set_lt listed.toList i (by simp [h2, h3])
        rw [Array.toList_setIfInBounds]
        omega
    · have h1 := hall e he hb
      have h3 : e.on < listed.size := by have := hwf i o ho e he hb; omega
      simp only [Array.getD_eq_getD_getElem?, Array.getElem?_eq_getElem h3, Option.getD_some] at h1 ⊢
      exact h1

def invNeeds (md : Region.Mode) (L : Nat → Bool) : List Edge → Prop
  | [] => True
  | e :: l => (Region.binds md e = true → L e.on = true) ∧ invNeeds md L l
theorem invNeeds_of {L : Nat → Bool} : ∀ (l : List Edge), (∀ e ∈ l, Region.binds md e = true → L e.on = true) → invNeeds md L l
  | [], _ => trivial
  | e :: l, h => ⟨h e (by simp), invNeeds_of l fun e' he => h e' (by simp [he])⟩
def invOps (P : Program) (md : Region.Mode) (ops : Array Oper) (a : Act) (srcs : List (Option Nat)) (Inv : (Nat → Bool) → (Nat → Value) → World → Prop) : List Oper → Nat → Prop
  | [], _ => True
  | o :: l, k => (∀ L xs w, Inv L xs w → L k = false → invNeeds md L o.after.toList → wpList P ops (InvEnd Inv (flowAct a srcs xs) o k L xs) [o] (flowAct a srcs xs) w) ∧ invOps P md ops a srcs Inv l (k + 1)
theorem invOps_get {a : Act} {srcs : List (Option Nat)} {Inv : (Nat → Bool) → (Nat → Value) → World → Prop} : ∀ (l : List Oper) (k : Nat), invOps P md ops a srcs Inv l k → ∀ i o, l[i]? = some o →
    ∀ L xs w, Inv L xs w → L (k + i) = false → invNeeds md L o.after.toList → wpList P ops (InvEnd Inv (flowAct a srcs xs) o (k + i) L xs) [o] (flowAct a srcs xs) w
  | [], _, _, i, o, h => by simp at h
  | o' :: l, k, hh, 0, o, h => by
    obtain rfl : o' = o := by simpa using h
    exact hh.1
  | o' :: l, k, hh, i + 1, o, h => by
    have := invOps_get l (k + 1) hh.2 i o (by simpa using h)
    rwa [show k + 1 + i = k + (i + 1) by omega] at this
theorem wp_region_inv {id : Nat} {Q : Exit → Act → World → Prop} {l : List Oper} {a : Act} {w : World} (srcs : List (Option Nat)) (xs0 : Nat → Value) (Inv : (Nat → Bool) → (Nat → Value) → World → Prop) (hm : P.follows .mixedOrders = true)
    (hB : flowB .any l.toArray srcs = true) (hl : a.tmps.size = srcs.length) (h0 : flowAct a srcs xs0 = a)
    (hI0 : ∀ L, (∀ i, i < l.length → L i = false) → Inv L xs0 { w with drawn := w.drawn + 1 })
    (hops : invOps P .any l.toArray a srcs Inv l 0)
    (hend : ∀ L xs w', Inv L xs w' → (∀ i, i < l.length → L i = true) → Q .normal (flowAct a srcs xs) w') : (Code.region id l.toArray true).wp P Q a w := by
  refine wp_region_any hm ?_
  have := wpAny_inv (P := P) (ops := l.toArray) (md := .any) (Q := Q) (flowAct a srcs) Inv
    (fun i o ho => (flowB_spec hB ho).1) (fun i o xs v ho => flowAct_put hB hl ho xs v)
    (fun i o ho L xs x hI hL hn => by
      have := invOps_get l 0 hops i o (by simpa using ho) L xs x hI (by rwa [Nat.zero_add]) (invNeeds_of _ fun e he hb => hn e (by simpa using he) hb)
      rwa [Nat.zero_add] at this)
    (fun L xs x hI hL => hend L xs x hI (fun i hi => hL i (by simpa using hi)))
    l.toArray.size (Array.replicate l.toArray.size false) xs0 { w with drawn := w.drawn + 1 } (hI0 _ fun i hi => by
      rw [Array.getD_eq_getD_getElem?, Array.getElem?_eq_getElem (by simpa using hi)]; simp) (by simp) (by simp)
  rwa [h0] at this
end
end Go.Proofs.Ytidbjmkfmfojdaa
end

section
namespace Go.Proofs.Ytidbjmkfmfojdaa
open Go.RowKit Go Go.Sort
set_option linter.unusedVariables false
set_option maxRecDepth 20000

/-- What is told of a region's values stays while memory grows, and while boxes are filled. -/
structure GSt (ty : TypeId) (G : Nat → Value → World → Prop) : Prop where
  grow : ∀ i v X Y, G i v X → Below X.heap.size X Y → G i v Y
  wrote : ∀ i v X Y q cs ds, X.heap[q]? = some (.cells ds ty (0, 0)) → Wrote q cs ty X Y → G i v X → G i v Y
/-- Where the laying of n boxes stands: m operations that tell what G says, n that make boxes, n that fill them with what operation 'sr j' told. -/
def LayG (m n : Nat) (ty : TypeId) (z : Array Value) (G : Nat → Value → World → Prop) (sr : Nat → Nat) (w0 : World) (L : Nat → Bool) (xs : Nat → Value) (w : World) : Prop :=
  Below w0.heap.size w0 w ∧ (∀ i, i < m → L i = true → G i (xs i) w) ∧
  (∀ j, j < n → L (m + j) = true → ∃ g cs, xs (m + j) = .pointer (some ⟨g, 0, none⟩) ∧ w0.heap.size ≤ g ∧ w.heap[g]? = some (.cells cs ty (0, 0)) ∧ (if L (m + n + j) = true then G (sr j) (.agg cs) w else cs = z)) ∧
  (∀ j k, j < n → k < n → j ≠ k → L (m + j) = true → L (m + k) = true → xs (m + j) ≠ xs (m + k)) ∧
  (∀ j, j < n → L (m + n + j) = true → L (m + j) = true)
section
variable {m n : Nat} {ty : TypeId} {z : Array Value} {G : Nat → Value → World → Prop} {sr : Nat → Nat} {w0 w : World} {L : Nat → Bool} {xs : Nat → Value}
theorem LayG.start (h : ∀ i, i < m + n + n → L i = false) : LayG m n ty z G sr w0 L xs { w0 with drawn := w0.drawn + 1 } := by
  have f : ∀ i, i < m + n + n → L i = true → False := fun i hi ht => by rw [h i hi] at ht; cases ht
  exact ⟨⟨rfl, rfl, rfl, Nat.le_refl _, fun _ _ => rfl⟩, fun i hi ht => (f i (by omega) ht).elim, fun j hj ht => (f _ (by omega) ht).elim, fun j k hj hk _ ht _ => (f _ (by omega) ht).elim, fun j hj ht => (f _ (by omega) ht).elim⟩
theorem LayG.below (h : LayG m n ty z G sr w0 L xs w) : Below w0.heap.size w0 w := h.1
theorem LayG.set (hs : GSt ty G) (h : LayG m n ty z G sr w0 L xs w) (i : Nat) (hi : i < m) {w' : World} (hb : Below w.heap.size w w') {v : Value} (hv : G i v w') : LayG m n ty z G sr w0 (fun j => if j = i then true else L j) (fun j => if j = i then v else xs j) w' := by
  obtain ⟨h0, h1, h2, h3, h4⟩ := h
  refine ⟨h0.trans (hb.mono h0.size), fun j hj ht => ?_, fun j hj ht => ?_, fun j k hj hk => ?_, fun j hj => ?_⟩
  · by_cases e : j = i
    · subst e; simpa using hv
    · simp only [if_neg e] at ht ⊢
      exact hs.grow _ _ _ _ (h1 j hj ht) hb
  · simp only [if_neg (show ¬ m + j = i by omega), if_neg (show ¬ m + n + j = i by omega)] at ht ⊢
    obtain ⟨g, cs, e1, e2, e3, e4⟩ := h2 j hj ht
    refine ⟨g, cs, e1, e2, heap_below e3 hb, ?_⟩
    split at e4
    · rename_i hL; rw [if_pos hL]; exact hs.grow _ _ _ _ e4 hb
    · rename_i hL; rw [if_neg hL]; exact e4
  · simp only [if_neg (show ¬ m + j = i by omega), if_neg (show ¬ m + k = i by omega)]
    exact h3 j k hj hk
  · simp only [if_neg (show ¬ m + j = i by omega), if_neg (show ¬ m + n + j = i by omega)]
    exact h4 j hj
theorem LayG.alloc (hs : GSt ty G) (h : LayG m n ty z G sr w0 L xs w) (j : Nat) (hj : j < n) {k : Nat} (hk : k = m + j) (hn : L k = false) : LayG m n ty z G sr w0 (fun i => if i = k then true else L i) (fun i => if i = k then .pointer (some ⟨w.heap.size, 0, none⟩) else xs i) (w.alloc (.cells z ty)) := by
  subst hk
  obtain ⟨h0, h1, h2, h3, h4⟩ := h
  have kb := alloc_below w (.cells z ty)
  have hf : L (m + n + j) = false := by
    cases hx : L (m + n + j) with
    | false => rfl
    | true => rw [h4 j hj hx] at hn; cases hn
  have hne : ∀ i, i < n → L (m + i) = true → xs (m + i) ≠ .pointer (some ⟨w.heap.size, 0, none⟩) := fun i hi ht => by
    obtain ⟨g, cs, e1, e2, e3, e4⟩ := h2 i hi ht
    rw [e1]
    have := (Array.getElem?_eq_some_iff.1 e3).1
    intro e
    simp at e
    try omega
  refine ⟨h0.trans (kb.mono h0.size), fun i hi ht => ?_, fun i hi ht => ?_, fun i k hi hk hne2 hti htk => ?_, fun i hi ht => ?_⟩
  · simp only [if_neg (show ¬ i = m + j by omega)] at ht ⊢
    exact hs.grow _ _ _ _ (h1 i hi ht) kb
  · by_cases e : i = j
    · subst e
      simp only [if_neg (show ¬ m + n + i = m + i by omega), hf, if_pos]
      exact ⟨_, z, rfl, h0.size, heap_alloc_new w _, by simp⟩
    · simp only [if_neg (show ¬ m + i = m + j by omega), if_neg (show ¬ m + n + i = m + j by omega)] at ht ⊢
      obtain ⟨g, cs, e1, e2, e3, e4⟩ := h2 i hi ht
      refine ⟨g, cs, e1, e2, heap_below e3 kb, ?_⟩
      split at e4
      · rename_i hL; rw [if_pos hL]; exact hs.grow _ _ _ _ e4 kb
      · rename_i hL; rw [if_neg hL]; exact e4
  · by_cases e1 : i = j
    · subst e1
      simp only [if_neg (show ¬ m + k = m + i by omega), if_pos] at htk ⊢
      exact (hne k hk htk).symm
    · by_cases e2 : k = j
      · subst e2
        simp only [if_neg (show ¬ m + i = m + k by omega), if_pos] at hti ⊢
        exact hne i hi hti
      · simp only [if_neg (show ¬ m + i = m + j by omega), if_neg (show ¬ m + k = m + j by omega)] at hti htk ⊢
        exact h3 i k hi hk hne2 hti htk
  · by_cases e : i = j
    · subst e; simp
    · simp only [if_neg (show ¬ m + i = m + j by omega), if_neg (show ¬ m + n + i = m + j by omega)] at ht ⊢
      exact h4 i hi ht
theorem LayG.store (hs : GSt ty G) (h : LayG m n ty z G sr w0 L xs w) (j : Nat) (hj : j < n) {k s : Nat} (hk : k = m + j) (hse : s = m + n + j) (hL : L k = true) {g : Nat} (hg : xs k = .pointer (some ⟨g, 0, none⟩)) {cs : Array Value} (hv : G (sr j) (.agg cs) w) {w2 : World} (hw : Wrote g cs ty w w2) (v : Value) :
    LayG m n ty z G sr w0 (fun i => if i = s then true else L i) (fun i => if i = s then v else xs i) w2 := by
  subst hk hse
  obtain ⟨h0, h1, h2, h3, h4⟩ := h
  obtain ⟨g', ds, e1, hB, hgd, -⟩ := h2 j hj hL
  obtain rfl : g' = g := by
    rw [hg] at e1
    injection e1 with e1
    injection e1 with e1
    injection e1 with e1
    exact e1.symm
  have hl := Nat.le_of_lt (Array.getElem?_eq_some_iff.1 hgd).1
  refine ⟨h0.trans (hw.below hB hl), fun i hi ht => ?_, fun i hi ht => ?_, fun i k hi hk hne hti htk => ?_, fun i hi ht => ?_⟩
  · simp only [if_neg (show ¬ i = m + n + j by omega)] at ht ⊢
    exact hs.wrote _ _ _ _ _ _ _ hgd hw (h1 i hi ht)
  · simp only [if_neg (show ¬ m + i = m + n + j by omega)] at ht ⊢
    by_cases e : i = j
    · subst e
      simp only [if_pos]
      exact ⟨g', cs, hg, hB, hw.cell, hs.wrote _ _ _ _ _ _ _ hgd hw hv⟩
    · simp only [if_neg (show ¬ m + n + i = m + n + j by omega)]
      obtain ⟨g2, c2, f1, f2, f3, f4⟩ := h2 i hi ht
      have hne := h3 i j hi hj e ht hL
      have hg2 : g2 ≠ g' := by rintro rfl; exact hne (f1.trans hg.symm)
      refine ⟨g2, c2, f1, f2, (hw.rest g2 (Array.getElem?_eq_some_iff.1 f3).1 hg2).trans f3, ?_⟩
      split at f4
      · rename_i hL2; rw [if_pos hL2]; exact hs.wrote _ _ _ _ _ _ _ hgd hw f4
      · rename_i hL2; rw [if_neg hL2]; exact f4
  · simp only [if_neg (show ¬ m + i = m + n + j by omega), if_neg (show ¬ m + k = m + n + j by omega)] at hti htk ⊢
    exact h3 i k hi hk hne hti htk
  · by_cases e : i = j
    · subst e
      simp only [if_neg (show ¬ m + i = m + n + i by omega)]
      exact hL
    · simp only [if_neg (show ¬ m + i = m + n + j by omega), if_neg (show ¬ m + n + i = m + n + j by omega)] at ht ⊢
      exact h4 i hi ht
theorem LayG.other (h : LayG m n ty z G sr w0 L xs w) (i : Nat) (hi : m + n + n ≤ i) (v : Value) : LayG m n ty z G sr w0 (fun j => if j = i then true else L j) (fun j => if j = i then v else xs j) w := by
  obtain ⟨h0, h1, h2, h3, h4⟩ := h
  refine ⟨h0, fun j hj ht => ?_, fun j hj ht => ?_, fun j k hj hk => ?_, fun j hj => ?_⟩
  · simp only [if_neg (show ¬ j = i by omega)] at ht ⊢; exact h1 j hj ht
  · simp only [if_neg (show ¬ m + j = i by omega), if_neg (show ¬ m + n + j = i by omega)] at ht ⊢; exact h2 j hj ht
  · simp only [if_neg (show ¬ m + j = i by omega), if_neg (show ¬ m + k = i by omega)]; exact h3 j k hj hk
  · simp only [if_neg (show ¬ m + j = i by omega), if_neg (show ¬ m + n + j = i by omega)]; exact h4 j hj
end
/-- A write put into the rows that it is the next of. -/
def rowPut (n1 : Nat) (R : List (List UInt8 × List Cl)) (k : List UInt8) (i : Nat) (x : Cl) : List (List UInt8 × List Cl) :=
  if R.length = 0 ∨ (R.getD (R.length - 1) ([], [])).1 ≠ k then R ++ [(k, (zerosC n1).set i x)] else R.set (R.length - 1) (k, (R.getD (R.length - 1) ([], [])).2.set i x)
def wrowN (gs : List Grp) (n s a b : Int) (ws : List Wr) : Nat → List (List UInt8 × List Cl)
  | 0 => []
  | k + 1 => rowPut gs.length (wrowN gs n s a b ws k) (ws.getD k Wr.zero).k (ws.getD k Wr.zero).i.toNat (cofS (gs.getD (ws.getD k Wr.zero).i.toNat ([], 0)).2 n s a b (ws.getD k Wr.zero).g (ws.getD k Wr.zero).v).1
/-- The rows that a change makes, and an error. -/
def chrowsS (gs : List Grp) (site seq n s a b : Int) (ws : List Wr) : List (List UInt8 × List Cl) × Int := if chgoodS gs site seq n s a b ws = 0 then (wrowN gs n s a b ws ws.length, 0) else ([], chgoodS gs site seq n s a b ws)
theorem rowPut_few (n1 : Nat) (R : List (List UInt8 × List Cl)) (k : List UInt8) (i : Nat) (x : Cl) : (rowPut n1 R k i x).length ≤ R.length + 1 := by
  unfold rowPut
  split
  · simp
  · simp
theorem wrow_few (gs : List Grp) (n s a b : Int) (ws : List Wr) : ∀ k, (wrowN gs n s a b ws k).length ≤ k
  | 0 => Nat.le_refl _
  | k + 1 => Nat.le_trans (rowPut_few _ _ _ _ _) (Nat.succ_le_succ (wrow_few gs n s a b ws k))
theorem prs_at {L : List Rw} {j : Nat} (hj : j < L.length) : (L.map Rw.pr).getD j ([], []) = (L.getD j Rw.zero).pr := by
  rw [List.getD_eq_getElem?_getD, List.getD_eq_getElem?_getD, List.getElem?_map, List.getElem?_eq_getElem hj]; rfl
/-- The rows behind a store into the last one: a new one, or the one there was. -/
theorem put_new {n1 : Nat} {L : List Rw} {R : List (List UInt8 × List Cl)} {k : List UInt8} {i : Nat} {x : Cl} {u : Value} (hR : L.map Rw.pr = R) (h : L.length = 0 ∨ (L.getD (L.length - 1) Rw.zero).k ≠ k) : ((L ++ [(⟨k, u, zerosC n1⟩ : Rw)]).set L.length (⟨k, u, (zerosC n1).set i x⟩ : Rw)).map Rw.pr = rowPut n1 R k i x := by
  subst hR
  unfold rowPut
  rw [List.length_map]
  have hc : L.length = 0 ∨ ((L.map Rw.pr).getD (L.length - 1) ([], [])).1 ≠ k := by
    rcases h with h | h
    · exact .inl h
    · by_cases e : L.length = 0
      · exact .inl e
      · right; rw [prs_at (by omega)]; exact h
  rw [if_pos hc, List.map_set, List.map_append]
  rw [List.set_append_right _ _ (by simp)]
  simp [Rw.pr]
theorem put_old {n1 p : Nat} {L : List Rw} {R : List (List UInt8 × List Cl)} {k : List UInt8} {i : Nat} {x : Cl} (hR : L.map Rw.pr = R) (hp : L.length = p + 1) (h : (L.getD p Rw.zero).k = k) : (L.set p (⟨k, (L.getD p Rw.zero).u, (L.getD p Rw.zero).cs.set i x⟩ : Rw)).map Rw.pr = rowPut n1 R k i x := by
  subst hR
  unfold rowPut
  rw [List.length_map, hp, Nat.add_sub_cancel, prs_at (by omega), if_neg (fun e => e.elim (by omega) (fun e => e h)), List.map_set]
  rfl
end Go.Proofs.Ytidbjmkfmfojdaa
end

section
namespace Go.Proofs.Ytidbjmkfmfojdaa
open Go.RowKit Go Go.Sort
set_option linter.unusedVariables false
set_option maxRecDepth 20000

def RwsPost (r : List (List UInt8 × List Cl) × Int) (n1 : Nat) (w : World) (e : Ending) (w' : World) : Prop := ∃ v L, e = .returned (.tuple #[v, .int .i64 r.2]) ∧ OwnRw w' w.heap.size n1 v L ∧ L.map Rw.pr = r.1 ∧ Below w.heap.size w w'
theorem put_only {W : World} {g m c k : Nat} (n9 s9 a9 b9 : Int) (g9 : Bool) (t9 : List UInt8) (d9 e9 : Int) : OnlyV (.slice (some ⟨g, 0, none⟩) m c) W (((((((((W.setCell ⟨g, k * 8, none⟩ (.int .i64 n9)).setCell ⟨g, k * 8 + 1, none⟩ (.int .i64 s9)).setCell ⟨g, k * 8 + 2, none⟩ (.int .i64 a9)).setCell ⟨g, k * 8 + 3, none⟩ (.int .i64 b9)).setCell ⟨g, k * 8 + 4, none⟩ (.bool g9)).setCell ⟨g, k * 8 + 5, none⟩ (.string (text t9))).setCell ⟨g, k * 8 + 6, none⟩ (.int .i64 d9)).setCell ⟨g, k * 8 + 7, none⟩ (.int .i64 e9))) :=
  ((((((((OnlyV.refl _ W).cell _ _).cell _ _).cell _ _).cell _ _).cell _ _).cell _ _).cell _ _).cell _ _
theorem Wrote.cell8 {W : World} {q : Nat} {n s a b d e : Int} {g : Bool} {t : List UInt8} (h : Cel W q n s a b g t d e) (n9 s9 a9 b9 : Int) (g9 : Bool) (t9 : List UInt8) (d9 e9 : Int) : Wrote q #[.int .i64 n9, .int .i64 s9, .int .i64 a9, .int .i64 b9, .bool g9, .string (text t9), .int .i64 d9, .int .i64 e9] 75 W ((((((((W.setCell ⟨q, 0, none⟩ (.int .i64 n9)).setCell ⟨q, 1, none⟩ (.int .i64 s9)).setCell ⟨q, 2, none⟩ (.int .i64 a9)).setCell ⟨q, 3, none⟩ (.int .i64 b9)).setCell ⟨q, 4, none⟩ (.bool g9)).setCell ⟨q, 5, none⟩ (.string (text t9))).setCell ⟨q, 6, none⟩ (.int .i64 d9)).setCell ⟨q, 7, none⟩ (.int .i64 e9)) := by
  have ho : OnlyV (.slice (some ⟨q, 0, none⟩) 1 1) W _ := ((((((((OnlyV.refl _ W).cell 0 (.int .i64 n9)).cell 1 (.int .i64 s9)).cell 2 (.int .i64 a9)).cell 3 (.int .i64 b9)).cell 4 (.bool g9)).cell 5 (.string (text t9))).cell 6 (.int .i64 d9)).cell 7 (.int .i64 e9)
  exact ⟨ho.os, ho.tape, ho.output, Nat.le_of_eq ho.size.symm, h.put n9 s9 a9 b9 g9 t9 d9 e9, fun k hk hne => ho.rest k (fun e => hne (by injection e))⟩
theorem RwsAt.len {W : World} {a : Option Addr} {m cap : Nat} {L : List Rw} (h : RwsAt W a m cap L) : m ≤ cap ∧ cap ≤ 9223372036854775807 := ⟨h.1.le, h.1.max⟩
theorem OwnRw.last {W : World} {B n1 p ct : Nat} {a : Option Addr} {L : List Rw} (h : OwnRw W B n1 (.slice a (p + 1) ct) L) (hl : L.length = p + 1) {k : List UInt8} {u : Value} {cs : List Cl} (hp : L.getD p Rw.zero = ⟨k, u, cs⟩) : ∃ br offr, a = some ⟨br, offr, none⟩ ∧ p + 1 ≤ ct ∧ ct ≤ 9223372036854775807 ∧
    (∀ W', Below W.heap.size W W' → W'.cell? ⟨br, offr + p * 2, none⟩ = some (.string (text k)) ∧ W'.cell? ⟨br, offr + p * 2 + 1, none⟩ = some u) ∧ OwnC W B u cs ∧ cs.length = n1 := by
  obtain ⟨a9, c9, ev, hr⟩ := h.at
  rw [hl] at ev hr
  injection ev with e1 e2 e3
  subst e1 e3
  obtain ⟨br, offr, a', n', c', e, eu, en, hc, hat⟩ := hr.place (k := p) (by omega)
  have ho := h.own p (by omega)
  rw [hp] at hat eu ho
  simp only at hat eu ho
  exact ⟨br, offr, e, hr.len.1, hr.len.2, fun W' hb => by rw [eu]; exact hat W' hb, ho.1, ho.2⟩
end Go.Proofs.Ytidbjmkfmfojdaa
end

section
namespace Go.Proofs.Ytidbjmkfmfojdaa
open Go.RowKit Go Go.Sort
set_option linter.unusedVariables false
set_option maxRecDepth 20000

abbrev Rp := List UInt8 × List Cl
theorem CelAt.of_block {W W' : World} {b o : Nat} {c : Cl} (h : CelAt W b o c) (hb : W'.heap[b]? = W.heap[b]?) : CelAt W' b o c := by
  have e : ∀ i, W'.cell? ⟨b, i, none⟩ = W.cell? ⟨b, i, none⟩ := fun i => by simp only [World.cell?, hb]
  unfold CelAt at h ⊢
  simp only [e]
  exact h
theorem Cls.of_block {W W' : World} {a : Option Addr} {n cap : Nat} {l : List Cl} (h : Cls W a n cap l) (hb : 0 < n → ∀ q off, a = some ⟨q, off, none⟩ → W'.heap[q]? = W.heap[q]?) : Cls W' a n cap l := by
  refine ⟨h.len, h.le, h.max, ?_⟩
  rcases h.adr with h4 | ⟨b, off, rfl, hc⟩
  · exact .inl h4
  · exact .inr ⟨b, off, rfl, fun i hi => (hc i hi).of_block (hb (by omega) b off rfl)⟩
theorem Cls.lt {W : World} {n cap q off : Nat} {l : List Cl} (h : Cls W (some ⟨q, off, none⟩) n cap l) (hn : 0 < n) : q < W.heap.size := by
  obtain ⟨b, off', e, hc⟩ := h.at hn
  injection e with e
  injection e with e1 e2
  subst e1
  exact World.block_lt_of_cell? W _ (hc W (Below.refl _ _)).1
/-- A row whose cells lie below a block, or in a block of cells. -/
structure RowIn (W : World) (B : Nat) (r : Rw) : Prop where
  has : ∃ a c, r.u = .slice a r.cs.length c ∧ Cls W a r.cs.length c r.cs ∧ (0 < r.cs.length → ∀ q off, a = some ⟨q, off, none⟩ → q < B ∨ ∃ cur fr, W.heap[q]? = some (.cells cur 75 fr))
theorem RowIn.kept {W W' : World} {B : Nat} {r : Rw} (h : RowIn W B r) (hb : Below W.heap.size W W') : RowIn W' B r := by
  obtain ⟨a, c, e, hc, hq⟩ := h.has
  refine ⟨a, c, e, hc.below hb, fun hp q off ea => ?_⟩
  subst ea
  exact (hq hp q off rfl).imp_right fun ⟨cur, fr, hx⟩ => ⟨cur, fr, (hb.block q (hc.lt hp)).trans hx⟩
theorem RowIn.mono {W : World} {B B' : Nat} {r : Rw} (h : RowIn W B r) (hB : B ≤ B') : RowIn W B' r := by
  obtain ⟨a, c, e, hc, hq⟩ := h.has
  exact ⟨a, c, e, hc, fun hp q off ea => (hq hp q off ea).imp_left (fun h => Nat.lt_of_lt_of_le h hB)⟩
/-- .. while a slice of rows, laid at B or later, grows. -/
theorem RowIn.turn {W W' : World} {B B' : Nat} {r : Rw} {v : Value} {L : List Rw} (h : RowIn W B r) (hr : OwnL 2 30 Rw.arr W B' v L) (hB : B ≤ B') (o : Obj) (hg : (W.alloc o).grownBy W' v.ownBlock) : RowIn W' B r := by
  obtain ⟨a, c, e, hc, hq⟩ := h.has
  have hne : 0 < r.cs.length → ∀ q off, a = some ⟨q, off, none⟩ → W'.heap[q]? = W.heap[q]? := fun hp q off ea => by
    subst ea
    have h1 := hc.lt hp
    refine (hg.block q (by simp; omega) (fun e2 => ?_)).trans (Below.heap_alloc W o q h1)
    rcases hq hp q off rfl with h2 | ⟨cur, fr, h2⟩
    · have := (hr.lt q e2.symm).1; omega
    · exact own_ne h2 (by decide) hr e2
  exact ⟨a, c, e, hc.of_block hne, fun hp q off ea => (hq hp q off ea).imp_right fun ⟨cur, fr, hx⟩ => ⟨cur, fr, (hne hp q off ea).trans hx⟩⟩
theorem RowIn.own {W : World} {B B' : Nat} {k : List UInt8} {u : Value} {cs : List Cl} (h : OwnC W B' u cs) : RowIn W B ⟨k, u, cs⟩ := by
  obtain ⟨a, c, e, hc⟩ := h.cls
  refine ⟨a, c, e, hc, fun hp q off ea => ?_⟩
  have hq : u.ownBlock = some q := by
    obtain ⟨g, c', e', -⟩ := own_some h hp
    rw [e'] at e
    injection e with e1 e2 e3
    rw [ea] at e1
    injection e1 with e1
    injection e1 with e1 e4
    rw [e', e1]
    rfl
  exact .inr (own_block h hq)
/-- Rows in a slice of the call's own, laid at B or later; their cells lie below B0, or in blocks of cells. -/
structure OwnS (W : World) (B0 B : Nat) (v : Value) (L : List Rw) : Prop where
  row : OwnL 2 30 Rw.arr W B v L
  le : B0 ≤ B
  has : ∀ r ∈ L, RowIn W B0 r
theorem OwnS.nil (W : World) {B0 B : Nat} (h : B0 ≤ B) : OwnS W B0 B (.slice none 0 0) [] := ⟨OwnL.nil _ _ _, h, fun r hr => by cases hr⟩
theorem OwnS.kept {W W' : World} {B0 B : Nat} {v : Value} {L : List Rw} (h : OwnS W B0 B v L) (hb : Below W.heap.size W W') : OwnS W' B0 B v L := ⟨h.row.kept hb, h.le, fun r hr => (h.has r hr).kept hb⟩
theorem OwnS.mono {W : World} {B0 B B' : Nat} {v : Value} {L : List Rw} (h : OwnS W B0 B v L) (h1 : B0 ≤ B') (h2 : B' ≤ B) : OwnS W B0 B' v L := ⟨h.row.mono h2, h1, h.has⟩
theorem OwnS.lt {W : World} {B0 B : Nat} {v : Value} {L : List Rw} (h : OwnS W B0 B v L) : ∀ k, v.ownBlock = some k → B ≤ k ∧ k < W.heap.size := h.row.lt
theorem OwnS.push {W W' : World} {B0 B : Nat} {v v' : Value} {L : List Rw} {r : Rw} (h : OwnS W B0 B v L) (hr : RowIn W B0 r) (o : Obj) (hl : OwnL 2 30 Rw.arr W' B v' (L ++ [r])) (hg : (W.alloc o).grownBy W' v.ownBlock) : OwnS W' B0 B v' (L ++ [r]) := by
  refine ⟨hl, h.le, fun x hx => ?_⟩
  rcases List.mem_append.1 hx with hx | hx
  · exact (h.has x hx).turn h.row h.le o hg
  · rw [List.mem_singleton] at hx; subst hx; exact hr.turn h.row h.le o hg
theorem rw_mem {L : List Rw} {k : Nat} (h : k < L.length) : L.getD k Rw.zero ∈ L := by
  rw [List.getD_eq_getElem?_getD, List.getElem?_eq_getElem h]; exact List.getElem_mem h
/-- Rows that lie in memory, each with its cells. -/
def RwsIn (W : World) (B : Nat) (a : Option Addr) (m cap : Nat) (L : List Rw) : Prop := Ls 2 Rw.arr Rw.zero W a m cap L ∧ ∀ r ∈ L, RowIn W B r
theorem RwsIn.below {W W' : World} {B : Nat} {a : Option Addr} {m cap : Nat} {L : List Rw} (h : RwsIn W B a m cap L) (hb : Below W.heap.size W W') : RwsIn W' B a m cap L := ⟨h.1.below hb, fun r hr => (h.2 r hr).kept hb⟩
theorem RwsIn.mono {W : World} {B B' : Nat} {a : Option Addr} {m cap : Nat} {L : List Rw} (h : RwsIn W B a m cap L) (hB : B ≤ B') : RwsIn W B' a m cap L := ⟨h.1, fun r hr => (h.2 r hr).mono hB⟩
theorem RwsIn.all {W : World} {B : Nat} {a : Option Addr} {m cap : Nat} {L : List Rw} (h : RwsIn W B a m cap L) : RwsAt W a m cap L :=
  ⟨h.1, fun j hj => by
    obtain ⟨a', c, e, hc, -⟩ := (h.2 _ (rw_mem (k := j) (by have := h.1.len; omega))).has
    exact ⟨a', c, e, hc⟩⟩
theorem RwsIn.place {W : World} {B : Nat} {a : Option Addr} {m cap : Nat} {L : List Rw} (h : RwsIn W B a m cap L) {k : Nat} (hk : k < m) : ∃ b off a' n' c', a = some ⟨b, off, none⟩ ∧ (L.getD k Rw.zero).u = .slice a' n' c' ∧ n' = (L.getD k Rw.zero).cs.length ∧ Cls W a' n' c' (L.getD k Rw.zero).cs ∧ RowIn W B (L.getD k Rw.zero) ∧
    ∀ W', Below W.heap.size W W' → W'.cell? ⟨b, off + k * 2, none⟩ = some (.string (text (L.getD k Rw.zero).k)) ∧ W'.cell? ⟨b, off + k * 2 + 1, none⟩ = some (.slice a' n' c') := by
  obtain ⟨b, off, a', n', c', h1, h2, h3, h4, h5⟩ := h.all.place hk
  exact ⟨b, off, a', n', c', h1, h2, h3, h4, h.2 _ (rw_mem (by have := h.1.len; omega)), h5⟩
end Go.Proofs.Ytidbjmkfmfojdaa
end

section
namespace Go.Proofs.Ytidbjmkfmfojdaa
open Go.RowKit Go Go.Sort
set_option linter.unusedVariables false
set_option maxRecDepth 20000

theorem nans_c (u : ByteArray) (w : World) : Calls Try.prog 149 #[.string u] w (fun e w' => e = .returned (.bool false) ∧ w' = w) := by
  have hz : (u.toList == u.toList) = true := by simp
  go_enter Try.func149, Try.ntmps149
  go_wp2
  go_ret
  exact ⟨by first | rfl | simp, rfl⟩
theorem nani_c (u : Int) (w : World) : Calls Try.prog 150 #[.int .i64 u] w (fun e w' => e = .returned (.bool false) ∧ w' = w) := by
  go_enter Try.func150, Try.ntmps150
  go_wp2
  go_ret
  exact ⟨by first | rfl | simp, rfl⟩
def cmp3 (p q : Bool) : Int := if p = true then -1 else if q = true then 1 else 0
set_option maxHeartbeats 1600000 in
theorem cmps_c (u u' : ByteArray) (w : World) : Calls Try.prog 147 #[.string u, .string u'] w (fun e w' => e = .returned (.int .i64 (cmp3 (Op.bytesLess u.toList u'.toList) (!(u.toList == u'.toList)))) ∧ w' = w) := by
  have h1 := fun W => nans_c u W
  have h2 := fun W => nans_c u' W
  obtain ⟨p, hp⟩ : ∃ z, Op.bytesLess u.toList u'.toList = z := ⟨_, rfl⟩
  obtain ⟨q, hq⟩ : ∃ z, (u.toList == u'.toList) = z := ⟨_, rfl⟩
  rw [hp, hq]
  have HV := Lib.hid (show cmp3 p q = cmp3 p q from rfl)
  have H1 := Lib.hid h1
  have H2 := Lib.hid h2
  clear h1 h2
  cases p with
  | true =>
    go_enter Try.func147, Try.ntmps147
    go_upto_region 2 with (go_at_call 149; (with_reducible refine (H1.out _).mono ?_); rintro e9 w9 ⟨rfl, rfl⟩)
    go_wp2_with (go_at_call 149; (with_reducible refine (H2.out _).mono ?_); rintro e9 w9 ⟨rfl, rfl⟩)
    go_ret
    exact ⟨by rfl, rfl⟩
  | false =>
    cases q with
    | false =>
      go_enter Try.func147, Try.ntmps147
      go_upto_region 2 with (go_at_call 149; (with_reducible refine (H1.out _).mono ?_); rintro e9 w9 ⟨rfl, rfl⟩)
      go_wp2_with (go_at_call 149; (with_reducible refine (H2.out _).mono ?_); rintro e9 w9 ⟨rfl, rfl⟩)
      go_ret
      exact ⟨by rfl, rfl⟩
    | true =>
      go_enter Try.func147, Try.ntmps147
      go_upto_region 2 with (go_at_call 149; (with_reducible refine (H1.out _).mono ?_); rintro e9 w9 ⟨rfl, rfl⟩)
      go_wp2_with (go_at_call 149; (with_reducible refine (H2.out _).mono ?_); rintro e9 w9 ⟨rfl, rfl⟩)
      go_ret
      exact ⟨by rfl, rfl⟩
set_option maxHeartbeats 1600000 in
theorem cmpi_c (u u' : Int) (w : World) : Calls Try.prog 148 #[.int .i64 u, .int .i64 u'] w (fun e w' => e = .returned (.int .i64 (cmp3 (decide (u < u')) (decide (u' < u)))) ∧ w' = w) := by
  have H1 := Lib.hid (fun W => nani_c u W)
  have H2 := Lib.hid (fun W => nani_c u' W)
  by_cases hp : u < u'
  · have HV := Lib.hid (show cmp3 (decide (u < u')) (decide (u' < u)) = -1 by simp [cmp3, hp])
    go_enter Try.func148, Try.ntmps148
    go_upto_region 2 with (go_at_call 150; (with_reducible refine (H1.out _).mono ?_); rintro e9 w9 ⟨rfl, rfl⟩)
    go_wp2_with (go_at_call 150; (with_reducible refine (H2.out _).mono ?_); rintro e9 w9 ⟨rfl, rfl⟩)
    go_ret
    exact ⟨by rw [HV.out]; rfl, rfl⟩
  · by_cases hq : u' < u
    · have HV := Lib.hid (show cmp3 (decide (u < u')) (decide (u' < u)) = 1 by simp [cmp3, hp, hq])
      go_enter Try.func148, Try.ntmps148
      go_upto_region 2 with (go_at_call 150; (with_reducible refine (H1.out _).mono ?_); rintro e9 w9 ⟨rfl, rfl⟩)
      go_wp2_with (go_at_call 150; (with_reducible refine (H2.out _).mono ?_); rintro e9 w9 ⟨rfl, rfl⟩)
      go_ret
      exact ⟨by rw [HV.out]; rfl, rfl⟩
    · have HV := Lib.hid (show cmp3 (decide (u < u')) (decide (u' < u)) = 0 by simp [cmp3, hp, hq])
      go_enter Try.func148, Try.ntmps148
      go_upto_region 2 with (go_at_call 150; (with_reducible refine (H1.out _).mono ?_); rintro e9 w9 ⟨rfl, rfl⟩)
      go_wp2_with (go_at_call 150; (with_reducible refine (H2.out _).mono ?_); rintro e9 w9 ⟨rfl, rfl⟩)
      go_ret
      exact ⟨by rw [HV.out]; rfl, rfl⟩
/-- Two ints of a call's own. -/
def Ints2 (x y : Int) (v : Value) (w : World) : Prop := ∃ q e, v = .slice (some ⟨q, 0, none⟩) 2 2 ∧ w.heap[q]? = some (.cells #[.int .i64 x, .int .i64 y] e (0, 0))
theorem Ints2.kept {x y : Int} {v : Value} {w w' : World} (h : Ints2 x y v w) (hb : Below w.heap.size w w') : Ints2 x y v w' := by
  obtain ⟨q, e, rfl, hq⟩ := h
  exact ⟨q, e, rfl, heap_below hq hb⟩
def or2 (x y : Int) : Int := if x = 0 then y else x
set_option maxHeartbeats 1600000 in
theorem cmpor_c (x y : Int) (v : Value) {w : World} (h : Ints2 x y v w) : Calls Try.prog 146 #[v] w (fun e w' => e = .returned (.int .i64 (or2 x y)) ∧ w' = w) := by
  obtain ⟨q, e, rfl, hq⟩ := h
  have c0 : w.cell? ⟨q, 0, none⟩ = some (.int .i64 x) := by rw [cell_of_row _ q _ _ _ (0, 0) hq]; rfl
  have c1 : w.cell? ⟨q, 1, none⟩ = some (.int .i64 y) := by rw [cell_of_row _ q _ _ _ (0, 0) hq]; rfl
  clear hq
  by_cases hx : x = 0
  · have HV := Lib.hid (show or2 x y = y by simp [or2, hx])
    by_cases hy : y = 0
    · subst hx hy
      go_enter Try.func146, Try.ntmps146
      go_wp2
      refine wp_loop_rounds 3 ?_
      rw [rounds_succ]
      go_wp2
      rw [rounds_succ]
      go_wp2
      rw [rounds_succ]
      go_wp2
      go_ret
      exact ⟨by rw [HV.out]; rfl, rfl⟩
    · subst hx
      go_enter Try.func146, Try.ntmps146
      go_wp2
      refine wp_loop_rounds 3 ?_
      rw [rounds_succ]
      go_wp2
      rw [rounds_succ]
      go_wp2
      go_ret
      exact ⟨by rw [HV.out]; rfl, rfl⟩
  · have HV := Lib.hid (show or2 x y = x by simp [or2, hx])
    go_enter Try.func146, Try.ntmps146
    go_wp2
    refine wp_loop_rounds 3 ?_
    rw [rounds_succ]
    go_wp2
    go_ret
    exact ⟨by rw [HV.out]; rfl, rfl⟩
end Go.Proofs.Ytidbjmkfmfojdaa
end

section
namespace Go.Proofs.Ytidbjmkfmfojdaa
open Go.RowKit Go Go.Sort
set_option linter.unusedVariables false
set_option maxRecDepth 20000

/-- A write's place. -/
def Wr.pl (c : Wr) : List UInt8 × Int := (c.k, c.i)
theorem strictW : Strict (lexR Op.bytesLess ltI) := strictT.lex strictI
theorem ahead_lex (a b : Wr) : aheadS a b = lexR Op.bytesLess ltI a.pl b.pl := by
  unfold aheadS lexR ltI Wr.pl
  by_cases h : a.k = b.k
  · rw [if_neg (by simp [h]), if_pos h]
  · rw [if_pos (by simp [h]), if_neg h]
theorem ahead_tr {a b c : Wr} (h1 : aheadS a b = true) (h2 : aheadS b c = true) : aheadS a c = true := by
  rw [ahead_lex] at *; exact strictW.tr _ _ _ h1 h2
theorem ahead_pl {a b : Wr} (h : a.pl = b.pl) : aheadS a b = false := by rw [ahead_lex, h]; exact strictW.irr _
end Go.Proofs.Ytidbjmkfmfojdaa
end

section
namespace Go.Proofs.Ytidbjmkfmfojdaa
open Go.RowKit Go Go.Sort
set_option linter.unusedVariables false
set_option maxRecDepth 20000

/-- What order tells. -/
def ordS (a b : Wr) : Int := cmp3 (aheadS a b) (aheadS b a)
theorem ord_geq (a b : Wr) : decide (ordS a b ≥ 0) = !aheadS a b := by
  unfold ordS cmp3
  cases aheadS a b <;> cases aheadS b a <;> rfl
theorem ord_or (a b : Wr) : or2 (cmp3 (Op.bytesLess a.k b.k) (!(a.k == b.k))) (cmp3 (decide (a.i < b.i)) (decide (b.i < a.i))) = ordS a b := by
  have S : Strict Op.bytesLess := strictT
  unfold ordS aheadS or2
  by_cases h : a.k = b.k
  · rw [h, S.irr]
    simp [cmp3]
  · have h1 : (a.k == b.k) = false := by simpa using h
    have h2 : (b.k == a.k) = false := by simpa using fun e => h e.symm
    rw [h1, h2]
    simp only [if_true]
    cases ha : Op.bytesLess a.k b.k with
    | true => simp [cmp3]
    | false =>
      cases hb : Op.bytesLess b.k a.k with
      | true => simp [cmp3]
      | false => exact absurd (S.tot _ _ ha hb) h
theorem wr_cells' {W : World} {q : Nat} {k v : ByteArray} {i : Int} {g : Bool} (h : W.heap[q]? = some (.cells #[.string k, .int .i64 i, .bool g, .string v] 94 (0, 0))) : W.cell? ⟨q, 0, none⟩ = some (.string k) ∧ W.cell? ⟨q, 1, none⟩ = some (.int .i64 i) ∧ W.cell? ⟨q, 2, none⟩ = some (.bool g) ∧ W.cell? ⟨q, 3, none⟩ = some (.string v) := by
  refine ⟨?_,?_,?_,?_⟩ <;> (rw [cell_of_row _ q _ _ _ (0, 0) h]; rfl)
set_option maxHeartbeats 3200000 in
theorem order_c (k : List UInt8) (i : Int) (g : Bool) (v : List UInt8) (k' : List UInt8) (i' : Int) (g' : Bool) (v' : List UInt8) (w : World) : Calls Try.prog 142 #[.agg #[.string (text k), .int .i64 i, .bool g, .string (text v)], .agg #[.string (text k'), .int .i64 i', .bool g', .string (text v')]] w (Tells (.int .i64 (ordS ⟨k, i, g, v⟩ ⟨k', i', g', v'⟩)) w) := by
  have hp := heap_below (heap_alloc_new w (.cells #[.string (text k), .int .i64 i, .bool g, .string (text v)] 94)) (alloc_below (w.alloc (.cells #[.string (text k), .int .i64 i, .bool g, .string (text v)] 94)) (.cells #[.string (text k'), .int .i64 i', .bool g', .string (text v')] 94))
  have hq := heap_alloc_new (w.alloc (.cells #[.string (text k), .int .i64 i, .bool g, .string (text v)] 94)) (.cells #[.string (text k'), .int .i64 i', .bool g', .string (text v')] 94)
  simp only [World.size_alloc] at hq
  have HB := Lib.hid ((alloc_below w (.cells #[.string (text k), .int .i64 i, .bool g, .string (text v)] 94)).alloc (by simp) (.cells #[.string (text k'), .int .i64 i', .bool g', .string (text v')] 94))
  have HR := Lib.hid (ord_or ⟨k, i, g, v⟩ ⟨k', i', g', v'⟩)
  have h1 := fun W => cmps_c (text k) (text k') W
  have h2 := fun W => cmpi_c i i' W
  simp only [text_toList] at h1 HR
  obtain ⟨X1, hX1⟩ : ∃ z, cmp3 (Op.bytesLess k k') (!(k == k')) = z := ⟨_, rfl⟩
  obtain ⟨X2, hX2⟩ : ∃ z, cmp3 (decide (i < i')) (decide (i' < i)) = z := ⟨_, rfl⟩
  rw [hX1, hX2] at HR
  simp only [hX1] at h1
  simp only [hX2] at h2
  have h3 := fun (v : Value) (W : World) (h : Ints2 X1 X2 v W) => cmpor_c X1 X2 v h
  obtain ⟨R, hR⟩ : ∃ z, or2 X1 X2 = z := ⟨_, rfl⟩
  simp only [hR] at h3 HR
  obtain ⟨u, hu⟩ : ∃ u, text k = u := ⟨_, rfl⟩
  obtain ⟨u', hu'⟩ : ∃ u, text k' = u := ⟨_, rfl⟩
  simp only [hu, hu'] at h1 hp hq HB ⊢
  have H1 := Lib.hid h1
  have H2 := Lib.hid h2
  have HOR := Lib.hid h3
  have HA0 := Lib.hid (fun W (h : Below (w.heap.size + 1 + 1) ((w.alloc (.cells #[.string u, .int .i64 i, .bool g, .string (text v)] 94)).alloc (.cells #[.string u', .int .i64 i', .bool g', .string (text v')] 94)) W) => (heap_below hp (by simpa using h)))
  have HC0 := Lib.hid (fun W (h : Below (w.heap.size + 1 + 1) ((w.alloc (.cells #[.string u, .int .i64 i, .bool g, .string (text v)] 94)).alloc (.cells #[.string u', .int .i64 i', .bool g', .string (text v')] 94)) W) => (heap_below hq (by simpa using h)))
  clear hp hq h1 h2 h3 hX1 hX2 hR hu hu'
  go_enter Try.func142, Try.ntmps142
  go_upto_region 1 with (fail)
  obtain ⟨B, hB⟩ : ∃ q, w.heap.size = q := ⟨_, rfl⟩
  have HW1 : ((w.alloc (.cells #[.string u, .int .i64 i, .bool g, .string (text v)] 94)).alloc (.cells #[.string u', .int .i64 i', .bool g', .string (text v')] 94)).heap.size = B + 1 + 1 := by simp [hB]
  have HBe := Lib.hid hB
  rw [hB] at HA0 HC0 ⊢
  clear hB
  generalize (w.alloc (.cells #[.string u, .int .i64 i, .bool g, .string (text v)] 94)).alloc (.cells #[.string u', .int .i64 i', .bool g', .string (text v')] 94) = W1 at *
  have HA := Lib.hid (fun W (h : Below W1.heap.size W1 W) => by
    obtain ⟨c0, c1, -⟩ := wr_cells' (HA0.out W (by rwa [HW1] at h))
    exact And.intro c0 c1)
  have HC := Lib.hid (fun W (h : Below W1.heap.size W1 W) => by
    obtain ⟨c0, c1, -⟩ := wr_cells' (HC0.out W (by rwa [HW1] at h))
    exact And.intro c0 c1)
  clear HA0 HC0 HW1
  refine wp_region_flow [none,none,none,none, some 12, some 0, some 1, some 2, some 3, some 4, some 5, some 6, some 7, some 8, some 9, some 10, some 11] (fun i => [undef,undef,undef,undef,undef,undef,undef,undef,undef,undef,undef,undef, .int .i64 0].getD i undef) [(fun v _ => v = .pointer (some ⟨B, 0, none⟩)), (fun v _ => v = .string u), (fun v _ => v = .pointer (some ⟨B + 1, 0, none⟩)), (fun v _ => v = .string u'), (fun v _ => v = .int .i64 X1), (fun v _ => v = .pointer (some ⟨B, 1, none⟩)), (fun v _ => v = .int .i64 i), (fun v _ => v = .pointer (some ⟨B + 1, 1, none⟩)), (fun v _ => v = .int .i64 i'), (fun v _ => v = .int .i64 X2), (Ints2 X1 X2), (fun v _ => v = .int .i64 R), (fun v _ => v = .int .i64 R)] (by kernel_rfl) (by kernel_rfl) rfl rfl rfl ?_ ?_ ?_
  · intro g hg v X Y hX hY hv
    simp only [List.mem_cons, List.not_mem_nil, or_false] at hg
    rcases hg with rfl | rfl | rfl | rfl | rfl | rfl | rfl | rfl | rfl | rfl | rfl | rfl | rfl
    all_goals first
      | exact hv
      | exact hv.kept hY
  · simp only [flowOps, and_true]
    refine ⟨?_,?_,?_,?_,?_,?_,?_,?_,?_,?_,?_,?_,?_⟩
    · intro xs W hW hn
      simp only [flowAct, zwc, zwn]
      go_wp2_with (fail)
      exact ⟨rfl, _, rfl, Below.refl _ _, rfl⟩
    · intro xs W hW hn
      have hc := HA.out W hW
      obtain ⟨c0, c1⟩ := hc
      simp [flowNeeds, Region.binds] at hn
      simp only [flowAct, zwc, zwn]
      try simp only [hn]
      go_wp2_with (fail)
      exact ⟨rfl, _, rfl, Below.refl _ _, rfl⟩
    · intro xs W hW hn
      simp only [flowAct, zwc, zwn]
      go_wp2_with (fail)
      exact ⟨rfl, _, rfl, Below.refl _ _, rfl⟩
    · intro xs W hW hn
      have hc := HC.out W hW
      obtain ⟨c0, c1⟩ := hc
      simp [flowNeeds, Region.binds] at hn
      simp only [flowAct, zwc, zwn]
      try simp only [hn]
      go_wp2_with (fail)
      exact ⟨rfl, _, rfl, Below.refl _ _, rfl⟩
    · intro xs W hW hn
      simp [flowNeeds, Region.binds] at hn
      simp only [flowAct, zwc, zwn]
      try simp only [hn]
      go_wp2_with (go_at_call 147; (with_reducible refine (H1.out _).mono ?_); rintro e9 w9 ⟨rfl, rfl⟩)
      exact ⟨rfl, _, rfl, Below.refl _ _, rfl⟩
    · intro xs W hW hn
      simp only [flowAct, zwc, zwn]
      go_wp2_with (fail)
      exact ⟨rfl, _, rfl, Below.refl _ _, rfl⟩
    · intro xs W hW hn
      have hc := HA.out W hW
      obtain ⟨c0, c1⟩ := hc
      simp [flowNeeds, Region.binds] at hn
      simp only [flowAct, zwc, zwn]
      try simp only [hn]
      go_wp2_with (fail)
      exact ⟨rfl, _, rfl, Below.refl _ _, rfl⟩
    · intro xs W hW hn
      simp only [flowAct, zwc, zwn]
      go_wp2_with (fail)
      exact ⟨rfl, _, rfl, Below.refl _ _, rfl⟩
    · intro xs W hW hn
      have hc := HC.out W hW
      obtain ⟨c0, c1⟩ := hc
      simp [flowNeeds, Region.binds] at hn
      simp only [flowAct, zwc, zwn]
      try simp only [hn]
      go_wp2_with (fail)
      exact ⟨rfl, _, rfl, Below.refl _ _, rfl⟩
    · intro xs W hW hn
      simp [flowNeeds, Region.binds] at hn
      simp only [flowAct, zwc, zwn]
      try simp only [hn]
      go_wp2_with (go_at_call 148; (with_reducible refine (H2.out _).mono ?_); rintro e9 w9 ⟨rfl, rfl⟩)
      exact ⟨rfl, _, rfl, Below.refl _ _, rfl⟩
    · intro xs W hW hn
      simp [flowNeeds, Region.binds] at hn
      simp only [flowAct, zwc, zwn]
      try simp only [hn]
      go_wp2_with (fail)
      exact ⟨rfl, _, rfl, alloc_below _ _, ⟨_, _, rfl, heap_alloc_new _ _⟩⟩
    · intro xs W hW hn
      simp [flowNeeds, Region.binds] at hn
      obtain ⟨hv9, h9⟩ := hn
      simp only [flowAct, zwc, zwn]
      try simp only [h9]
      go_wp2_with (go_at_call 146; (with_reducible refine (HOR.out _ _ hv9).mono ?_); rintro e9 w9 ⟨rfl, rfl⟩)
      exact ⟨rfl, _, rfl, Below.refl _ _, rfl⟩
    · intro xs W hW hn
      simp [flowNeeds, Region.binds] at hn
      simp only [flowAct, zwc, zwn]
      try simp only [hn]
      go_wp2_with (fail)
      exact ⟨rfl, _, rfl, Below.refl _ _, rfl⟩
  · intro xs W hW hall
    simp only [flowAll, and_true, Nat.zero_add, Nat.reduceAdd] at hall
    obtain ⟨-,-,-,-,-,-,-,-,-,-,-,-, e12⟩ := hall
    simp only [flowAct, zwc, zwn]
    simp only [e12]
    go_wp2
    go_ret
    exact ⟨by rw [HR.out]; rfl, HB.out.trans (hW.mono HB.out.size)⟩
theorem keyS_dec (k : List UInt8) : decide (keyS k = 0) = (!(k == []) && decide (k.length ≤ 32)) := by
  unfold keyS
  by_cases h : k = []
  · subst h; rfl
  · have hb : (k == []) = false := by simpa using h
    rw [if_neg h, hb]
    by_cases h2 : 32 < k.length
    · rw [if_pos h2]; simp; omega
    · rw [if_neg h2]; simp; omega
set_option maxHeartbeats 3200000 in
theorem cgoodwrite_c (n1 : Nat) (k : List UInt8) (i : Int) (g : Bool) (v : List UInt8) (hk : k.length ≤ 9223372036854775807) (hvl : v.length ≤ 9223372036854775807) (w : World) :
    Calls Try.prog 141 #[.int .i64 (n1 : Int), .agg #[.string (text k), .int .i64 i, .bool g, .string (text v)]] w (Tells (.bool (mayS n1 ⟨k, i, g, v⟩)) w) := by
  have hp := heap_alloc_new w (.cells #[.string (text k), .int .i64 i, .bool g, .string (text v)] 94)
  have HB := Lib.hid (alloc_below w (.cells #[.string (text k), .int .i64 i, .bool g, .string (text v)] 94))
  have HV0 := Lib.hid (show mayS n1 ⟨k, i, g, v⟩ = (decide (keyS k = 0) && (decide (0 ≤ i) && (decide (i < (n1 : Int)) && (decide (v.length ≤ 64) && (!g || v == []))))) from rfl)
  rw [keyS_dec] at HV0
  obtain ⟨r, hr⟩ : ∃ r, mayS n1 ⟨k, i, g, v⟩ = r := ⟨_, rfl⟩
  rw [hr] at HV0 ⊢
  have htn := text_nilb v
  have htk := text_nilb k
  have hsz : ((text v).size : Int) = (v.length : Int) := by rw [text_size]
  have hsk : ((text k).size : Int) = (k.length : Int) := by rw [text_size]
  have HVB := Lib.hid (show (v == []) = true → v.length = 0 from fun h => by
    have : v = [] := by simpa using h
    rw [this]
    rfl)
  obtain ⟨p0, p1, p2, p3⟩ := wr_cells hp
  obtain ⟨vb, hvb⟩ : ∃ z, (v == []) = z := ⟨_, rfl⟩
  obtain ⟨vl, hvl2⟩ : ∃ z, v.length = z := ⟨_, rfl⟩
  obtain ⟨kb, hkb⟩ : ∃ z, (k == []) = z := ⟨_, rfl⟩
  obtain ⟨kl, hkl2⟩ : ∃ z, k.length = z := ⟨_, rfl⟩
  obtain ⟨tv, htv⟩ : ∃ z, text v = z := ⟨_, rfl⟩
  obtain ⟨tx, htx⟩ : ∃ z, text k = z := ⟨_, rfl⟩
  rw [hvb, hvl2, hkb, hkl2] at HV0
  rw [hvb, hvl2] at HVB
  rw [hvb] at htn
  rw [hkb] at htk
  rw [hvl2] at hsz
  rw [hkl2] at hsk
  simp only [htv, htx] at htn htk hsz hsk p0 p1 p2 p3 HB ⊢
  clear hp hr hvb hvl2 htv htx hk hvl hkb hkl2
  by_cases h0 : kb = true
  · subst h0
    have HV := Lib.hid (show r = false by rw [HV0.out]; simp)
    clear HV0
    go_enter Try.func141, Try.ntmps141
    go_wp2
    go_ret
    exact ⟨by rw [HV.out]; rfl, HB.out⟩
  · have h0 : kb = false := by simpa using h0
    subst h0
    by_cases h1 : kl ≤ 32
    · have h1i : ¬ (32 : Int) < (kl : Int) := by omega
      by_cases h2 : i < 0
      · have HV := Lib.hid (show r = false by rw [HV0.out]; simp; omega)
        clear HV0
        go_enter Try.func141, Try.ntmps141
        go_wp2
        go_ret
        exact ⟨by rw [HV.out]; rfl, HB.out⟩
      · by_cases h3 : (n1 : Int) ≤ i
        · have HV := Lib.hid (show r = false by rw [HV0.out]; simp; omega)
          clear HV0
          go_enter Try.func141, Try.ntmps141
          go_wp2
          go_ret
          exact ⟨by rw [HV.out]; rfl, HB.out⟩
        · have h2' : 0 ≤ i := by omega
          have h3' : i < (n1 : Int) := by omega
          cases g with
          | true =>
            cases vb with
            | true =>
              have hv0 := HVB.out rfl
              have HV := Lib.hid (show r = true by rw [HV0.out]; simp [h1, h2', h3', hv0])
              clear HV0 h2' h3' hv0
              go_enter Try.func141, Try.ntmps141
              go_wp2
              go_ret
              exact ⟨by rw [HV.out]; rfl, HB.out⟩
            | false =>
              have HV := Lib.hid (show r = false by rw [HV0.out]; simp)
              clear HV0 h2' h3'
              go_enter Try.func141, Try.ntmps141
              go_wp2
              go_ret
              exact ⟨by rw [HV.out]; rfl, HB.out⟩
          | false =>
            by_cases h4 : vl ≤ 64
            · have h4i : (vl : Int) ≤ 64 := by omega
              have HV := Lib.hid (show r = true by rw [HV0.out]; simp [h1, h2', h3', h4])
              clear HV0 h2' h3'
              go_enter Try.func141, Try.ntmps141
              go_wp2
              go_ret
              exact ⟨by rw [HV.out]; rfl, HB.out⟩
            · have h4i : ¬ (vl : Int) ≤ 64 := by omega
              have HV := Lib.hid (show r = false by rw [HV0.out]; simp [h4])
              clear HV0 h2' h3'
              go_enter Try.func141, Try.ntmps141
              go_wp2
              go_ret
              exact ⟨by rw [HV.out]; rfl, HB.out⟩
    · have h1i : (32 : Int) < (kl : Int) := by omega
      have HV := Lib.hid (show r = false by rw [HV0.out]; simp [h1])
      clear HV0
      go_enter Try.func141, Try.ntmps141
      go_wp2
      go_ret
      exact ⟨by rw [HV.out]; rfl, HB.out⟩
end Go.Proofs.Ytidbjmkfmfojdaa
end

section
namespace Go.Proofs.Ytidbjmkfmfojdaa
open Go.RowKit Go Go.Sort
set_option linter.unusedVariables false
set_option maxRecDepth 20000

def goodHeadS (site seq n s a b : Int) : Bool := (site == 1 || site == 2) && (sgood n s && (s == site)) && (vgood a b && (decide (1 ≤ seq) && (seq == (if site = 1 then a else b))))
def gwsS (n1 : Nat) (l : List Wr) : Bool := decide (1 ≤ l.length) && (decide (l.length ≤ 8) && (List.range l.length).all (wAt n1 l))
theorem vgood_max {a b : Int} (h : vgood a b = true) : a ≤ 1099511627776 ∧ b ≤ 1099511627776 := by
  simp [vgood] at h
  omega
theorem head_eq (site seq n s a b : Int) (m : Nat) : headBad site seq n s a b m = !(goodHeadS site seq n s a b && (decide (1 ≤ m) && decide (m ≤ 8))) := by
  unfold headBad goodHeadS
  by_cases h1 : site = 1
  · subst h1
    by_cases h9 : s = 1
    · subst h9
      cases hv : vgood a b with
      | true =>
        have := vgood_max hv
        cases sgood n 1 <;> rw [Bool.eq_iff_iff] <;> simp <;> omega
      | false => simp
    · have : (s == 1) = false := by simpa using h9
      simp [this, h9]
  · by_cases h2 : site = 2
    · subst h2
      by_cases h9 : s = 2
      · subst h9
        cases hv : vgood a b with
        | true =>
          have := vgood_max hv
          cases sgood n 2 <;> rw [Bool.eq_iff_iff] <;> simp <;> omega
        | false => simp
      · have : (s == 2) = false := by simpa using h9
        simp [this, h9]
    · have e1 : (site == 1) = false := by simpa using h1
      have e2 : (site == 2) = false := by simpa using h2
      simp [bne, e1, e2]
theorem gws_no {n1 : Nat} {l : List Wr} {k : Nat} (hk : k < l.length) (h : wAt n1 l k = false) : gwsS n1 l = false := by
  unfold gwsS
  have : (List.range l.length).all (wAt n1 l) = false := by
    cases hb : (List.range l.length).all (wAt n1 l) with
    | false => rfl
    | true =>
      have := List.all_eq_true.1 hb k (List.mem_range.2 hk)
      rw [h] at this
      cases this
  rw [this]
  simp
theorem gws_yes {n1 : Nat} {l : List Wr} (h1 : 1 ≤ l.length) (h8 : l.length ≤ 8) (h : ∀ k, k < l.length → wAt n1 l k = true) : gwsS n1 l = true := by
  unfold gwsS
  have : (List.range l.length).all (wAt n1 l) = true := List.all_eq_true.2 fun k hk => h k (List.mem_range.1 hk)
  rw [this]
  simp [h1, h8]
theorem chgood_eq (gs : List Grp) (site seq n s a b : Int) (l : List Wr) : chgoodS gs site seq n s a b l = if ¬ pgoodS gs = 0 then pgoodS gs else if (goodHeadS site seq n s a b && gwsS gs.length l) = true then 0 else 120 := by
  unfold chgoodS
  rw [head_eq]
  unfold gwsS
  by_cases h : pgoodS gs = 0
  · rw [if_neg (not_not_intro h), if_neg (not_not_intro h)]
    cases goodHeadS site seq n s a b <;> cases decide (1 ≤ l.length) <;> cases decide (l.length ≤ 8) <;> simp
  · rw [if_pos h, if_pos h]
theorem ch_cells' {W : World} {q : Nat} {site seq n s a b : Int} {x2 : Option Addr} {m cap2 : Nat} (h : W.heap[q]? = some (.cells #[.int .i64 site, .int .i64 seq, .int .i64 n, .int .i64 s, .int .i64 a, .int .i64 b, .slice x2 m cap2] 91 (0, 0))) : W.cell? ⟨q, 0, none⟩ = some (.int .i64 site) ∧ W.cell? ⟨q, 1, none⟩ = some (.int .i64 seq) ∧ W.cell? ⟨q, 2, none⟩ = some (.int .i64 n) ∧ W.cell? ⟨q, 3, none⟩ = some (.int .i64 s) ∧ W.cell? ⟨q, 4, none⟩ = some (.int .i64 a) ∧ W.cell? ⟨q, 5, none⟩ = some (.int .i64 b) := by
  obtain ⟨c0, c1, c2, c3, c4, c5, -⟩ := ch_cells h
  exact ⟨c0, c1, c2, c3, c4, c5⟩
set_option maxHeartbeats 12800000 in
theorem goodhead_c (site seq n s a b : Int) (x2 : Option Addr) (m cap2 : Nat) (w : World) : Calls Try.prog 130 #[.agg #[.int .i64 site, .int .i64 seq, .int .i64 n, .int .i64 s, .int .i64 a, .int .i64 b, .slice x2 m cap2]] w (Tells (.bool (goodHeadS site seq n s a b)) w) := by
  have HB0 := Lib.hid (alloc_below w (.cells #[.int .i64 site, .int .i64 seq, .int .i64 n, .int .i64 s, .int .i64 a, .int .i64 b, .slice x2 m cap2] 91))
  have hr := heap_alloc_new w (.cells #[.int .i64 site, .int .i64 seq, .int .i64 n, .int .i64 s, .int .i64 a, .int .i64 b, .slice x2 m cap2] 91)
  have HC0 := Lib.hid (fun W (h : Below (w.alloc (.cells #[.int .i64 site, .int .i64 seq, .int .i64 n, .int .i64 s, .int .i64 a, .int .i64 b, .slice x2 m cap2] 91)).heap.size (w.alloc (.cells #[.int .i64 site, .int .i64 seq, .int .i64 n, .int .i64 s, .int .i64 a, .int .i64 b, .slice x2 m cap2] 91)) W) => ch_cells' (heap_below hr h))
  obtain ⟨c0, c1, c2, c3, c4, c5⟩ := ch_cells' hr
  clear hr
  by_cases h1 : site = 1
  · subst h1
    have HRR0 := Lib.hid (show goodHeadS 1 seq n s a b = ((sgood n s && (s == 1)) && (vgood a b && (decide (1 ≤ seq) && (seq == a)))) from by simp [goodHeadS])
    obtain ⟨r, hr⟩ : ∃ r, goodHeadS 1 seq n s a b = r := ⟨_, rfl⟩
    rw [hr] at HRR0 ⊢
    have hsg := fun W => sgood_c n s W
    have hvg := fun W => vgood_c a b W
    obtain ⟨SG, hSG⟩ : ∃ z, sgood n s = z := ⟨_, rfl⟩
    obtain ⟨VG, hVG⟩ : ∃ z, vgood a b = z := ⟨_, rfl⟩
    rw [hSG, hVG] at HRR0
    simp only [hSG] at hsg
    simp only [hVG] at hvg
    have HSG := Lib.hid hsg
    have HVG := Lib.hid hvg
    clear hr hSG hVG hsg hvg
    cases SG with
    | false =>
      have HRR := Lib.hid (show r = false by rw [HRR0.out]; rfl)
      clear HRR0
      go_enter Try.func130, Try.ntmps130
      go_upto_region 4 with (go_at_call 139; (with_reducible refine (HSG.out _).mono ?_); rintro e9 w2 ⟨rfl, hb2⟩)
      have HB1 := Lib.hid (HB0.out.trans (hb2.mono HB0.out.size))
      have HCW := Lib.hid (fun W (h : Below w2.heap.size w2 W) => HC0.out W (hb2.trans (h.mono hb2.size)))
      clear hb2 HB0 HC0 HSG c0 c1 c2 c3 c4 c5
      obtain ⟨B, hB⟩ : ∃ z, w.heap.size = z := ⟨_, rfl⟩
      simp only [hB] at HCW ⊢
      have HBe := Lib.hid hB
      clear hB
      refine wp_region_flow [none,none, some 22, none,none,none,none,none,none,none,none,none,none,none,none,none,none,none,none,none,none,none,none, some 0, some 1, some 2, some 3, some 4, some 5, some 6, some 7, some 8, some 9, some 10, some 11, some 12, some 13, some 14, some 15, some 16, some 17, some 18, some 19, some 20, some 21] (fun i => [undef,undef,undef,undef,undef,undef,undef,undef,undef,undef,undef,undef,undef,undef,undef,undef,undef,undef,undef,undef,undef,undef, .bool false].getD i undef) [(fun v _ => v = .bool false), (fun v _ => v = .bool false), (fun v _ => v = undef), (fun v _ => v = undef), (fun v _ => v = undef), (fun v _ => v = .bool false), (fun v _ => v = .bool false), (fun v _ => v = undef), (fun v _ => v = undef), (fun v _ => v = undef), (fun v _ => v = .bool false), (fun v _ => v = .bool false), (fun v _ => v = undef), (fun v _ => v = undef), (fun v _ => v = undef), (fun v _ => v = undef), (fun v _ => v = undef), (fun v _ => v = undef), (fun v _ => v = undef), (fun v _ => v = undef), (fun v _ => v = undef), (fun v _ => v = .bool false), (fun v _ => v = .bool false)] (by kernel_rfl) (by kernel_rfl) rfl rfl rfl ?_ ?_ ?_
      · intro g hg v X Y hX hY hv
        simp only [List.mem_cons, List.not_mem_nil, or_false] at hg
        rcases hg with rfl | rfl | rfl | rfl | rfl | rfl | rfl | rfl | rfl | rfl | rfl | rfl | rfl | rfl | rfl | rfl | rfl | rfl | rfl | rfl | rfl | rfl | rfl
        all_goals first
          | exact hv
          | exact hv.kept hY
      · simp only [flowOps, and_true]
        refine ⟨?_,?_,?_,?_,?_,?_,?_,?_,?_,?_,?_,?_,?_,?_,?_,?_,?_,?_,?_,?_,?_,?_,?_⟩
        · intro xs W hW hn
          simp only [flowAct, zwc, zwn]
          go_wp2_with (fail)
          exact ⟨rfl, _, rfl, Below.refl _ _, rfl⟩
        · intro xs W hW hn
          simp [flowNeeds, Region.binds] at hn
          simp only [flowAct, zwc, zwn]
          try simp only [hn]
          go_wp2_with (fail)
          exact ⟨rfl, _, rfl, Below.refl _ _, rfl⟩
        · intro xs W hW hn
          simp [flowNeeds, Region.binds] at hn
          simp only [flowAct, zwc, zwn]
          try simp only [hn]
          go_wp2_with (fail)
          exact ⟨rfl, _, rfl, Below.refl _ _, rfl⟩
        · intro xs W hW hn
          simp [flowNeeds, Region.binds] at hn
          simp only [flowAct, zwc, zwn]
          try simp only [hn]
          go_wp2_with (fail)
          exact ⟨rfl, _, rfl, Below.refl _ _, rfl⟩
        · intro xs W hW hn
          simp [flowNeeds, Region.binds] at hn
          simp only [flowAct, zwc, zwn]
          try simp only [hn]
          go_wp2_with (fail)
          exact ⟨rfl, _, rfl, Below.refl _ _, rfl⟩
        · intro xs W hW hn
          simp [flowNeeds, Region.binds] at hn
          simp only [flowAct, zwc, zwn]
          try simp only [hn]
          go_wp2_with (fail)
          exact ⟨rfl, _, rfl, Below.refl _ _, rfl⟩
        · intro xs W hW hn
          simp [flowNeeds, Region.binds] at hn
          simp only [flowAct, zwc, zwn]
          try simp only [hn]
          go_wp2_with (fail)
          exact ⟨rfl, _, rfl, Below.refl _ _, rfl⟩
        · intro xs W hW hn
          simp [flowNeeds, Region.binds] at hn
          simp only [flowAct, zwc, zwn]
          try simp only [hn]
          go_wp2_with (fail)
          exact ⟨rfl, _, rfl, Below.refl _ _, rfl⟩
        · intro xs W hW hn
          simp [flowNeeds, Region.binds] at hn
          simp only [flowAct, zwc, zwn]
          try simp only [hn]
          go_wp2_with (fail)
          exact ⟨rfl, _, rfl, Below.refl _ _, rfl⟩
        · intro xs W hW hn
          simp [flowNeeds, Region.binds] at hn
          simp only [flowAct, zwc, zwn]
          try simp only [hn]
          go_wp2_with (fail)
          exact ⟨rfl, _, rfl, Below.refl _ _, rfl⟩
        · intro xs W hW hn
          simp [flowNeeds, Region.binds] at hn
          simp only [flowAct, zwc, zwn]
          try simp only [hn]
          go_wp2_with (fail)
          exact ⟨rfl, _, rfl, Below.refl _ _, rfl⟩
        · intro xs W hW hn
          simp [flowNeeds, Region.binds] at hn
          simp only [flowAct, zwc, zwn]
          try simp only [hn]
          go_wp2_with (fail)
          exact ⟨rfl, _, rfl, Below.refl _ _, rfl⟩
        · intro xs W hW hn
          simp [flowNeeds, Region.binds] at hn
          simp only [flowAct, zwc, zwn]
          try simp only [hn]
          go_wp2_with (fail)
          exact ⟨rfl, _, rfl, Below.refl _ _, rfl⟩
        · intro xs W hW hn
          simp [flowNeeds, Region.binds] at hn
          simp only [flowAct, zwc, zwn]
          try simp only [hn]
          go_wp2_with (fail)
          exact ⟨rfl, _, rfl, Below.refl _ _, rfl⟩
        · intro xs W hW hn
          simp [flowNeeds, Region.binds] at hn
          simp only [flowAct, zwc, zwn]
          try simp only [hn]
          go_wp2_with (fail)
          exact ⟨rfl, _, rfl, Below.refl _ _, rfl⟩
        · intro xs W hW hn
          simp [flowNeeds, Region.binds] at hn
          simp only [flowAct, zwc, zwn]
          try simp only [hn]
          go_wp2_with (fail)
          exact ⟨rfl, _, rfl, Below.refl _ _, rfl⟩
        · intro xs W hW hn
          simp [flowNeeds, Region.binds] at hn
          simp only [flowAct, zwc, zwn]
          try simp only [hn]
          go_wp2_with (fail)
          exact ⟨rfl, _, rfl, Below.refl _ _, rfl⟩
        · intro xs W hW hn
          simp [flowNeeds, Region.binds] at hn
          simp only [flowAct, zwc, zwn]
          try simp only [hn]
          go_wp2_with (fail)
          exact ⟨rfl, _, rfl, Below.refl _ _, rfl⟩
        · intro xs W hW hn
          simp [flowNeeds, Region.binds] at hn
          simp only [flowAct, zwc, zwn]
          try simp only [hn]
          go_wp2_with (fail)
          exact ⟨rfl, _, rfl, Below.refl _ _, rfl⟩
        · intro xs W hW hn
          simp [flowNeeds, Region.binds] at hn
          simp only [flowAct, zwc, zwn]
          try simp only [hn]
          go_wp2_with (fail)
          exact ⟨rfl, _, rfl, Below.refl _ _, rfl⟩
        · intro xs W hW hn
          simp [flowNeeds, Region.binds] at hn
          simp only [flowAct, zwc, zwn]
          try simp only [hn]
          go_wp2_with (fail)
          exact ⟨rfl, _, rfl, Below.refl _ _, rfl⟩
        · intro xs W hW hn
          simp [flowNeeds, Region.binds] at hn
          simp only [flowAct, zwc, zwn]
          try simp only [hn]
          go_wp2_with (fail)
          exact ⟨rfl, _, rfl, Below.refl _ _, rfl⟩
        · intro xs W hW hn
          simp [flowNeeds, Region.binds] at hn
          simp only [flowAct, zwc, zwn]
          try simp only [hn]
          go_wp2_with (fail)
          exact ⟨rfl, _, rfl, Below.refl _ _, rfl⟩
      · intro xs W hW hall
        simp only [flowAll, and_true, Nat.zero_add, Nat.reduceAdd] at hall
        obtain ⟨-,-,-,-,-,-,-,-,-,-,-,-,-,-,-,-,-,-,-,-,-,-, e22⟩ := hall
        simp only [flowAct, zwc, zwn]
        simp only [e22]
        go_wp2
        go_ret
        exact ⟨by rw [HRR.out]; rfl, HB1.out.trans (hW.mono HB1.out.size)⟩
    | true =>
      by_cases hss : s = 1
      · have hsb : (s == 1) = true := by simpa using hss
        subst hss
        rw [hsb] at HRR0
        clear hsb
        go_enter Try.func130, Try.ntmps130
        go_upto_region 4 with (go_at_call 139; (with_reducible refine (HSG.out _).mono ?_); rintro e9 w2 ⟨rfl, hb2⟩; obtain ⟨c0, c1, c2, c3, c4, c5⟩ := HC0.out w2 hb2)
        have HB1 := Lib.hid (HB0.out.trans (hb2.mono HB0.out.size))
        have HCW := Lib.hid (fun W (h : Below w2.heap.size w2 W) => HC0.out W (hb2.trans (h.mono hb2.size)))
        clear hb2 HB0 HC0 HSG c0 c1 c2 c3 c4 c5
        obtain ⟨B, hB⟩ : ∃ z, w.heap.size = z := ⟨_, rfl⟩
        simp only [hB] at HCW ⊢
        have HBe := Lib.hid hB
        clear hB
        cases VG with
        | false =>
          have HRR := Lib.hid (show r = false by rw [HRR0.out]; rfl)
          clear HRR0
          refine wp_region_flow [none,none, some 22, none,none,none,none,none,none,none,none,none,none,none,none,none,none,none,none,none,none,none,none, some 0, some 1, some 2, some 3, some 4, some 5, some 6, some 7, some 8, some 9, some 10, some 11, some 12, some 13, some 14, some 15, some 16, some 17, some 18, some 19, some 20, some 21] (fun i => [undef,undef,undef,undef,undef,undef,undef,undef,undef,undef,undef,undef,undef,undef,undef,undef,undef,undef,undef,undef,undef,undef, .bool false].getD i undef) [(fun v _ => v = .bool true), (fun v _ => v = .bool true), (fun v _ => v = .pointer (some ⟨B, 4, none⟩)), (fun v _ => v = .agg #[.int .i64 a, .int .i64 b]), (fun v _ => v = .bool false), (fun v _ => v = .bool false), (fun v _ => v = .bool false), (fun v _ => v = undef), (fun v _ => v = undef), (fun v _ => v = undef), (fun v _ => v = .bool false), (fun v _ => v = .bool false), (fun v _ => v = undef), (fun v _ => v = undef), (fun v _ => v = undef), (fun v _ => v = undef), (fun v _ => v = undef), (fun v _ => v = undef), (fun v _ => v = undef), (fun v _ => v = undef), (fun v _ => v = undef), (fun v _ => v = .bool false), (fun v _ => v = .bool false)] (by kernel_rfl) (by kernel_rfl) rfl rfl rfl ?_ ?_ ?_
          · intro g hg v X Y hX hY hv
            simp only [List.mem_cons, List.not_mem_nil, or_false] at hg
            rcases hg with rfl | rfl | rfl | rfl | rfl | rfl | rfl | rfl | rfl | rfl | rfl | rfl | rfl | rfl | rfl | rfl | rfl | rfl | rfl | rfl | rfl | rfl | rfl
            all_goals first
              | exact hv
              | exact hv.kept hY
          · simp only [flowOps, and_true]
            refine ⟨?_,?_,?_,?_,?_,?_,?_,?_,?_,?_,?_,?_,?_,?_,?_,?_,?_,?_,?_,?_,?_,?_,?_⟩
            · intro xs W hW hn
              simp only [flowAct, zwc, zwn]
              go_wp2_with (fail)
              exact ⟨rfl, _, rfl, Below.refl _ _, rfl⟩
            · intro xs W hW hn
              simp [flowNeeds, Region.binds] at hn
              simp only [flowAct, zwc, zwn]
              try simp only [hn]
              go_wp2_with (fail)
              exact ⟨rfl, _, rfl, Below.refl _ _, rfl⟩
            · intro xs W hW hn
              simp [flowNeeds, Region.binds] at hn
              simp only [flowAct, zwc, zwn]
              try simp only [hn]
              go_wp2_with (fail)
              exact ⟨rfl, _, rfl, Below.refl _ _, rfl⟩
            · intro xs W hW hn
              obtain ⟨c0, c1, c2, c3, c4, c5⟩ := HCW.out W hW
              simp [flowNeeds, Region.binds] at hn
              simp only [flowAct, zwc, zwn]
              try simp only [hn]
              go_wp2_with (fail)
              exact ⟨rfl, _, rfl, Below.refl _ _, rfl⟩
            · intro xs W hW hn
              simp [flowNeeds, Region.binds] at hn
              simp only [flowAct, zwc, zwn]
              try simp only [hn]
              go_wp2_with (go_at_call 127; (with_reducible refine (HVG.out _).mono ?_); rintro e9 w9 ⟨rfl, hb9⟩)
              exact ⟨rfl, _, rfl, hb9, rfl⟩
            · intro xs W hW hn
              simp [flowNeeds, Region.binds] at hn
              simp only [flowAct, zwc, zwn]
              try simp only [hn]
              go_wp2_with (fail)
              exact ⟨rfl, _, rfl, Below.refl _ _, rfl⟩
            · intro xs W hW hn
              simp [flowNeeds, Region.binds] at hn
              simp only [flowAct, zwc, zwn]
              try simp only [hn]
              go_wp2_with (fail)
              exact ⟨rfl, _, rfl, Below.refl _ _, rfl⟩
            · intro xs W hW hn
              simp [flowNeeds, Region.binds] at hn
              simp only [flowAct, zwc, zwn]
              try simp only [hn]
              go_wp2_with (fail)
              exact ⟨rfl, _, rfl, Below.refl _ _, rfl⟩
            · intro xs W hW hn
              simp [flowNeeds, Region.binds] at hn
              simp only [flowAct, zwc, zwn]
              try simp only [hn]
              go_wp2_with (fail)
              exact ⟨rfl, _, rfl, Below.refl _ _, rfl⟩
            · intro xs W hW hn
              simp [flowNeeds, Region.binds] at hn
              simp only [flowAct, zwc, zwn]
              try simp only [hn]
              go_wp2_with (fail)
              exact ⟨rfl, _, rfl, Below.refl _ _, rfl⟩
            · intro xs W hW hn
              simp [flowNeeds, Region.binds] at hn
              simp only [flowAct, zwc, zwn]
              try simp only [hn]
              go_wp2_with (fail)
              exact ⟨rfl, _, rfl, Below.refl _ _, rfl⟩
            · intro xs W hW hn
              simp [flowNeeds, Region.binds] at hn
              simp only [flowAct, zwc, zwn]
              try simp only [hn]
              go_wp2_with (fail)
              exact ⟨rfl, _, rfl, Below.refl _ _, rfl⟩
            · intro xs W hW hn
              simp [flowNeeds, Region.binds] at hn
              simp only [flowAct, zwc, zwn]
              try simp only [hn]
              go_wp2_with (fail)
              exact ⟨rfl, _, rfl, Below.refl _ _, rfl⟩
            · intro xs W hW hn
              simp [flowNeeds, Region.binds] at hn
              simp only [flowAct, zwc, zwn]
              try simp only [hn]
              go_wp2_with (fail)
              exact ⟨rfl, _, rfl, Below.refl _ _, rfl⟩
            · intro xs W hW hn
              simp [flowNeeds, Region.binds] at hn
              simp only [flowAct, zwc, zwn]
              try simp only [hn]
              go_wp2_with (fail)
              exact ⟨rfl, _, rfl, Below.refl _ _, rfl⟩
            · intro xs W hW hn
              simp [flowNeeds, Region.binds] at hn
              simp only [flowAct, zwc, zwn]
              try simp only [hn]
              go_wp2_with (fail)
              exact ⟨rfl, _, rfl, Below.refl _ _, rfl⟩
            · intro xs W hW hn
              simp [flowNeeds, Region.binds] at hn
              simp only [flowAct, zwc, zwn]
              try simp only [hn]
              go_wp2_with (fail)
              exact ⟨rfl, _, rfl, Below.refl _ _, rfl⟩
            · intro xs W hW hn
              simp [flowNeeds, Region.binds] at hn
              simp only [flowAct, zwc, zwn]
              try simp only [hn]
              go_wp2_with (fail)
              exact ⟨rfl, _, rfl, Below.refl _ _, rfl⟩
            · intro xs W hW hn
              simp [flowNeeds, Region.binds] at hn
              simp only [flowAct, zwc, zwn]
              try simp only [hn]
              go_wp2_with (fail)
              exact ⟨rfl, _, rfl, Below.refl _ _, rfl⟩
            · intro xs W hW hn
              simp [flowNeeds, Region.binds] at hn
              simp only [flowAct, zwc, zwn]
              try simp only [hn]
              go_wp2_with (fail)
              exact ⟨rfl, _, rfl, Below.refl _ _, rfl⟩
            · intro xs W hW hn
              simp [flowNeeds, Region.binds] at hn
              simp only [flowAct, zwc, zwn]
              try simp only [hn]
              go_wp2_with (fail)
              exact ⟨rfl, _, rfl, Below.refl _ _, rfl⟩
            · intro xs W hW hn
              simp [flowNeeds, Region.binds] at hn
              simp only [flowAct, zwc, zwn]
              try simp only [hn]
              go_wp2_with (fail)
              exact ⟨rfl, _, rfl, Below.refl _ _, rfl⟩
            · intro xs W hW hn
              simp [flowNeeds, Region.binds] at hn
              simp only [flowAct, zwc, zwn]
              try simp only [hn]
              go_wp2_with (fail)
              exact ⟨rfl, _, rfl, Below.refl _ _, rfl⟩
          · intro xs W hW hall
            simp only [flowAll, and_true, Nat.zero_add, Nat.reduceAdd] at hall
            obtain ⟨-,-,-,-,-,-,-,-,-,-,-,-,-,-,-,-,-,-,-,-,-,-, e22⟩ := hall
            simp only [flowAct, zwc, zwn]
            simp only [e22]
            go_wp2
            go_ret
            exact ⟨by rw [HRR.out]; rfl, HB1.out.trans (hW.mono HB1.out.size)⟩
        | true =>
          by_cases hq : 1 ≤ seq
          · have HRR := Lib.hid (show r = (seq == a) by rw [HRR0.out]; simp [hq])
            clear HRR0
            refine wp_region_flow [none,none, some 22, none,none,none,none,none,none,none,none,none,none,none,none,none,none,none,none,none,none,none,none, some 0, some 1, some 2, some 3, some 4, some 5, some 6, some 7, some 8, some 9, some 10, some 11, some 12, some 13, some 14, some 15, some 16, some 17, some 18, some 19, some 20, some 21] (fun i => [undef,undef,undef,undef,undef,undef,undef,undef,undef,undef,undef,undef,undef,undef,undef,undef,undef,undef,undef,undef,undef,undef, .bool false].getD i undef) [(fun v _ => v = .bool true), (fun v _ => v = .bool true), (fun v _ => v = .pointer (some ⟨B, 4, none⟩)), (fun v _ => v = .agg #[.int .i64 a, .int .i64 b]), (fun v _ => v = .bool true), (fun v _ => v = .bool true), (fun v _ => v = .bool true), (fun v _ => v = .pointer (some ⟨B, 1, none⟩)), (fun v _ => v = .int .i64 seq), (fun v _ => v = .bool true), (fun v _ => v = .bool true), (fun v _ => v = .bool true), (fun v _ => v = .pointer (some ⟨B, 1, none⟩)), (fun v _ => v = .int .i64 seq), (fun v _ => v = .pointer (some ⟨B, 0, none⟩)), (fun v _ => v = .int .i64 1), (fun v _ => v = .int .i64 0), (fun v _ => v = .pointer (some ⟨B, 4, none⟩)), (fun v _ => v = .pointer (some ⟨B, 4, none⟩)), (fun v _ => v = .int .i64 a), (fun v _ => v = .bool (seq == a)), (fun v _ => v = .bool (seq == a)), (fun v _ => v = .bool (seq == a))] (by kernel_rfl) (by kernel_rfl) rfl rfl rfl ?_ ?_ ?_
            · intro g hg v X Y hX hY hv
              simp only [List.mem_cons, List.not_mem_nil, or_false] at hg
              rcases hg with rfl | rfl | rfl | rfl | rfl | rfl | rfl | rfl | rfl | rfl | rfl | rfl | rfl | rfl | rfl | rfl | rfl | rfl | rfl | rfl | rfl | rfl | rfl
              all_goals first
                | exact hv
                | exact hv.kept hY
            · simp only [flowOps, and_true]
              refine ⟨?_,?_,?_,?_,?_,?_,?_,?_,?_,?_,?_,?_,?_,?_,?_,?_,?_,?_,?_,?_,?_,?_,?_⟩
              · intro xs W hW hn
                simp only [flowAct, zwc, zwn]
                go_wp2_with (fail)
                exact ⟨rfl, _, rfl, Below.refl _ _, rfl⟩
              · intro xs W hW hn
                simp [flowNeeds, Region.binds] at hn
                simp only [flowAct, zwc, zwn]
                try simp only [hn]
                go_wp2_with (fail)
                exact ⟨rfl, _, rfl, Below.refl _ _, rfl⟩
              · intro xs W hW hn
                simp [flowNeeds, Region.binds] at hn
                simp only [flowAct, zwc, zwn]
                try simp only [hn]
                go_wp2_with (fail)
                exact ⟨rfl, _, rfl, Below.refl _ _, rfl⟩
              · intro xs W hW hn
                obtain ⟨c0, c1, c2, c3, c4, c5⟩ := HCW.out W hW
                simp [flowNeeds, Region.binds] at hn
                simp only [flowAct, zwc, zwn]
                try simp only [hn]
                go_wp2_with (fail)
                exact ⟨rfl, _, rfl, Below.refl _ _, rfl⟩
              · intro xs W hW hn
                simp [flowNeeds, Region.binds] at hn
                simp only [flowAct, zwc, zwn]
                try simp only [hn]
                go_wp2_with (go_at_call 127; (with_reducible refine (HVG.out _).mono ?_); rintro e9 w9 ⟨rfl, hb9⟩)
                exact ⟨rfl, _, rfl, hb9, rfl⟩
              · intro xs W hW hn
                simp [flowNeeds, Region.binds] at hn
                simp only [flowAct, zwc, zwn]
                try simp only [hn]
                go_wp2_with (fail)
                exact ⟨rfl, _, rfl, Below.refl _ _, rfl⟩
              · intro xs W hW hn
                simp [flowNeeds, Region.binds] at hn
                simp only [flowAct, zwc, zwn]
                try simp only [hn]
                go_wp2_with (fail)
                exact ⟨rfl, _, rfl, Below.refl _ _, rfl⟩
              · intro xs W hW hn
                simp [flowNeeds, Region.binds] at hn
                simp only [flowAct, zwc, zwn]
                try simp only [hn]
                go_wp2_with (fail)
                exact ⟨rfl, _, rfl, Below.refl _ _, rfl⟩
              · intro xs W hW hn
                obtain ⟨c0, c1, c2, c3, c4, c5⟩ := HCW.out W hW
                simp [flowNeeds, Region.binds] at hn
                simp only [flowAct, zwc, zwn]
                try simp only [hn]
                go_wp2_with (fail)
                exact ⟨rfl, _, rfl, Below.refl _ _, rfl⟩
              · intro xs W hW hn
                simp [flowNeeds, Region.binds] at hn
                simp only [flowAct, zwc, zwn]
                try simp only [hn]
                go_wp2_with (fail)
                exact ⟨rfl, _, rfl, Below.refl _ _, by first | rfl | go_num | (simp; done)⟩
              · intro xs W hW hn
                simp [flowNeeds, Region.binds] at hn
                simp only [flowAct, zwc, zwn]
                try simp only [hn]
                go_wp2_with (fail)
                exact ⟨rfl, _, rfl, Below.refl _ _, rfl⟩
              · intro xs W hW hn
                simp [flowNeeds, Region.binds] at hn
                simp only [flowAct, zwc, zwn]
                try simp only [hn]
                go_wp2_with (fail)
                exact ⟨rfl, _, rfl, Below.refl _ _, rfl⟩
              · intro xs W hW hn
                simp [flowNeeds, Region.binds] at hn
                simp only [flowAct, zwc, zwn]
                try simp only [hn]
                go_wp2_with (fail)
                exact ⟨rfl, _, rfl, Below.refl _ _, rfl⟩
              · intro xs W hW hn
                obtain ⟨c0, c1, c2, c3, c4, c5⟩ := HCW.out W hW
                simp [flowNeeds, Region.binds] at hn
                simp only [flowAct, zwc, zwn]
                try simp only [hn]
                go_wp2_with (fail)
                exact ⟨rfl, _, rfl, Below.refl _ _, rfl⟩
              · intro xs W hW hn
                simp [flowNeeds, Region.binds] at hn
                simp only [flowAct, zwc, zwn]
                try simp only [hn]
                go_wp2_with (fail)
                exact ⟨rfl, _, rfl, Below.refl _ _, rfl⟩
              · intro xs W hW hn
                obtain ⟨c0, c1, c2, c3, c4, c5⟩ := HCW.out W hW
                simp [flowNeeds, Region.binds] at hn
                simp only [flowAct, zwc, zwn]
                try simp only [hn]
                go_wp2_with (fail)
                exact ⟨rfl, _, rfl, Below.refl _ _, rfl⟩
              · intro xs W hW hn
                simp [flowNeeds, Region.binds] at hn
                simp only [flowAct, zwc, zwn]
                try simp only [hn]
                go_wp2_with (fail)
                exact ⟨rfl, _, rfl, Below.refl _ _, by first | rfl | go_num | (simp; done)⟩
              · intro xs W hW hn
                simp [flowNeeds, Region.binds] at hn
                simp only [flowAct, zwc, zwn]
                try simp only [hn]
                go_wp2_with (fail)
                exact ⟨rfl, _, rfl, Below.refl _ _, rfl⟩
              · intro xs W hW hn
                simp [flowNeeds, Region.binds] at hn
                simp only [flowAct, zwc, zwn]
                try simp only [hn]
                go_wp2_with (fail)
                exact ⟨rfl, _, rfl, Below.refl _ _, by first | rfl | go_num | (simp; done)⟩
              · intro xs W hW hn
                obtain ⟨c0, c1, c2, c3, c4, c5⟩ := HCW.out W hW
                simp [flowNeeds, Region.binds] at hn
                simp only [flowAct, zwc, zwn]
                try simp only [hn]
                go_wp2_with (fail)
                exact ⟨rfl, _, rfl, Below.refl _ _, rfl⟩
              · intro xs W hW hn
                simp [flowNeeds, Region.binds] at hn
                simp only [flowAct, zwc, zwn]
                try simp only [hn]
                go_wp2_with (fail)
                exact ⟨rfl, _, rfl, Below.refl _ _, by first | rfl | go_num | (simp; done)⟩
              · intro xs W hW hn
                simp [flowNeeds, Region.binds] at hn
                simp only [flowAct, zwc, zwn]
                try simp only [hn]
                go_wp2_with (fail)
                exact ⟨rfl, _, rfl, Below.refl _ _, rfl⟩
              · intro xs W hW hn
                simp [flowNeeds, Region.binds] at hn
                simp only [flowAct, zwc, zwn]
                try simp only [hn]
                go_wp2_with (fail)
                exact ⟨rfl, _, rfl, Below.refl _ _, rfl⟩
            · intro xs W hW hall
              simp only [flowAll, and_true, Nat.zero_add, Nat.reduceAdd] at hall
              obtain ⟨-,-,-,-,-,-,-,-,-,-,-,-,-,-,-,-,-,-,-,-,-,-, e22⟩ := hall
              simp only [flowAct, zwc, zwn]
              simp only [e22]
              go_wp2
              go_ret
              exact ⟨by rw [HRR.out]; rfl, HB1.out.trans (hW.mono HB1.out.size)⟩
          · have HRR := Lib.hid (show r = false by rw [HRR0.out]; simp [hq])
            clear HRR0
            refine wp_region_flow [none,none, some 22, none,none,none,none,none,none,none,none,none,none,none,none,none,none,none,none,none,none,none,none, some 0, some 1, some 2, some 3, some 4, some 5, some 6, some 7, some 8, some 9, some 10, some 11, some 12, some 13, some 14, some 15, some 16, some 17, some 18, some 19, some 20, some 21] (fun i => [undef,undef,undef,undef,undef,undef,undef,undef,undef,undef,undef,undef,undef,undef,undef,undef,undef,undef,undef,undef,undef,undef, .bool false].getD i undef) [(fun v _ => v = .bool true), (fun v _ => v = .bool true), (fun v _ => v = .pointer (some ⟨B, 4, none⟩)), (fun v _ => v = .agg #[.int .i64 a, .int .i64 b]), (fun v _ => v = .bool true), (fun v _ => v = .bool true), (fun v _ => v = .bool true), (fun v _ => v = .pointer (some ⟨B, 1, none⟩)), (fun v _ => v = .int .i64 seq), (fun v _ => v = .bool false), (fun v _ => v = .bool false), (fun v _ => v = .bool false), (fun v _ => v = undef), (fun v _ => v = undef), (fun v _ => v = undef), (fun v _ => v = undef), (fun v _ => v = undef), (fun v _ => v = undef), (fun v _ => v = undef), (fun v _ => v = undef), (fun v _ => v = undef), (fun v _ => v = .bool false), (fun v _ => v = .bool false)] (by kernel_rfl) (by kernel_rfl) rfl rfl rfl ?_ ?_ ?_
            · intro g hg v X Y hX hY hv
              simp only [List.mem_cons, List.not_mem_nil, or_false] at hg
              rcases hg with rfl | rfl | rfl | rfl | rfl | rfl | rfl | rfl | rfl | rfl | rfl | rfl | rfl | rfl | rfl | rfl | rfl | rfl | rfl | rfl | rfl | rfl | rfl
              all_goals first
                | exact hv
                | exact hv.kept hY
            · simp only [flowOps, and_true]
              refine ⟨?_,?_,?_,?_,?_,?_,?_,?_,?_,?_,?_,?_,?_,?_,?_,?_,?_,?_,?_,?_,?_,?_,?_⟩
              · intro xs W hW hn
                simp only [flowAct, zwc, zwn]
                go_wp2_with (fail)
                exact ⟨rfl, _, rfl, Below.refl _ _, rfl⟩
              · intro xs W hW hn
                simp [flowNeeds, Region.binds] at hn
                simp only [flowAct, zwc, zwn]
                try simp only [hn]
                go_wp2_with (fail)
                exact ⟨rfl, _, rfl, Below.refl _ _, rfl⟩
              · intro xs W hW hn
                simp [flowNeeds, Region.binds] at hn
                simp only [flowAct, zwc, zwn]
                try simp only [hn]
                go_wp2_with (fail)
                exact ⟨rfl, _, rfl, Below.refl _ _, rfl⟩
              · intro xs W hW hn
                obtain ⟨c0, c1, c2, c3, c4, c5⟩ := HCW.out W hW
                simp [flowNeeds, Region.binds] at hn
                simp only [flowAct, zwc, zwn]
                try simp only [hn]
                go_wp2_with (fail)
                exact ⟨rfl, _, rfl, Below.refl _ _, rfl⟩
              · intro xs W hW hn
                simp [flowNeeds, Region.binds] at hn
                simp only [flowAct, zwc, zwn]
                try simp only [hn]
                go_wp2_with (go_at_call 127; (with_reducible refine (HVG.out _).mono ?_); rintro e9 w9 ⟨rfl, hb9⟩)
                exact ⟨rfl, _, rfl, hb9, rfl⟩
              · intro xs W hW hn
                simp [flowNeeds, Region.binds] at hn
                simp only [flowAct, zwc, zwn]
                try simp only [hn]
                go_wp2_with (fail)
                exact ⟨rfl, _, rfl, Below.refl _ _, rfl⟩
              · intro xs W hW hn
                simp [flowNeeds, Region.binds] at hn
                simp only [flowAct, zwc, zwn]
                try simp only [hn]
                go_wp2_with (fail)
                exact ⟨rfl, _, rfl, Below.refl _ _, rfl⟩
              · intro xs W hW hn
                simp [flowNeeds, Region.binds] at hn
                simp only [flowAct, zwc, zwn]
                try simp only [hn]
                go_wp2_with (fail)
                exact ⟨rfl, _, rfl, Below.refl _ _, rfl⟩
              · intro xs W hW hn
                obtain ⟨c0, c1, c2, c3, c4, c5⟩ := HCW.out W hW
                simp [flowNeeds, Region.binds] at hn
                simp only [flowAct, zwc, zwn]
                try simp only [hn]
                go_wp2_with (fail)
                exact ⟨rfl, _, rfl, Below.refl _ _, rfl⟩
              · intro xs W hW hn
                simp [flowNeeds, Region.binds] at hn
                simp only [flowAct, zwc, zwn]
                try simp only [hn]
                go_wp2_with (fail)
                exact ⟨rfl, _, rfl, Below.refl _ _, by first | rfl | go_num | (simp; done)⟩
              · intro xs W hW hn
                simp [flowNeeds, Region.binds] at hn
                simp only [flowAct, zwc, zwn]
                try simp only [hn]
                go_wp2_with (fail)
                exact ⟨rfl, _, rfl, Below.refl _ _, rfl⟩
              · intro xs W hW hn
                simp [flowNeeds, Region.binds] at hn
                simp only [flowAct, zwc, zwn]
                try simp only [hn]
                go_wp2_with (fail)
                exact ⟨rfl, _, rfl, Below.refl _ _, rfl⟩
              · intro xs W hW hn
                simp [flowNeeds, Region.binds] at hn
                simp only [flowAct, zwc, zwn]
                try simp only [hn]
                go_wp2_with (fail)
                exact ⟨rfl, _, rfl, Below.refl _ _, rfl⟩
              · intro xs W hW hn
                simp [flowNeeds, Region.binds] at hn
                simp only [flowAct, zwc, zwn]
                try simp only [hn]
                go_wp2_with (fail)
                exact ⟨rfl, _, rfl, Below.refl _ _, rfl⟩
              · intro xs W hW hn
                simp [flowNeeds, Region.binds] at hn
                simp only [flowAct, zwc, zwn]
                try simp only [hn]
                go_wp2_with (fail)
                exact ⟨rfl, _, rfl, Below.refl _ _, rfl⟩
              · intro xs W hW hn
                simp [flowNeeds, Region.binds] at hn
                simp only [flowAct, zwc, zwn]
                try simp only [hn]
                go_wp2_with (fail)
                exact ⟨rfl, _, rfl, Below.refl _ _, rfl⟩
              · intro xs W hW hn
                simp [flowNeeds, Region.binds] at hn
                simp only [flowAct, zwc, zwn]
                try simp only [hn]
                go_wp2_with (fail)
                exact ⟨rfl, _, rfl, Below.refl _ _, rfl⟩
              · intro xs W hW hn
                simp [flowNeeds, Region.binds] at hn
                simp only [flowAct, zwc, zwn]
                try simp only [hn]
                go_wp2_with (fail)
                exact ⟨rfl, _, rfl, Below.refl _ _, rfl⟩
              · intro xs W hW hn
                simp [flowNeeds, Region.binds] at hn
                simp only [flowAct, zwc, zwn]
                try simp only [hn]
                go_wp2_with (fail)
                exact ⟨rfl, _, rfl, Below.refl _ _, rfl⟩
              · intro xs W hW hn
                simp [flowNeeds, Region.binds] at hn
                simp only [flowAct, zwc, zwn]
                try simp only [hn]
                go_wp2_with (fail)
                exact ⟨rfl, _, rfl, Below.refl _ _, rfl⟩
              · intro xs W hW hn
                simp [flowNeeds, Region.binds] at hn
                simp only [flowAct, zwc, zwn]
                try simp only [hn]
                go_wp2_with (fail)
                exact ⟨rfl, _, rfl, Below.refl _ _, rfl⟩
              · intro xs W hW hn
                simp [flowNeeds, Region.binds] at hn
                simp only [flowAct, zwc, zwn]
                try simp only [hn]
                go_wp2_with (fail)
                exact ⟨rfl, _, rfl, Below.refl _ _, rfl⟩
              · intro xs W hW hn
                simp [flowNeeds, Region.binds] at hn
                simp only [flowAct, zwc, zwn]
                try simp only [hn]
                go_wp2_with (fail)
                exact ⟨rfl, _, rfl, Below.refl _ _, rfl⟩
            · intro xs W hW hall
              simp only [flowAll, and_true, Nat.zero_add, Nat.reduceAdd] at hall
              obtain ⟨-,-,-,-,-,-,-,-,-,-,-,-,-,-,-,-,-,-,-,-,-,-, e22⟩ := hall
              simp only [flowAct, zwc, zwn]
              simp only [e22]
              go_wp2
              go_ret
              exact ⟨by rw [HRR.out]; rfl, HB1.out.trans (hW.mono HB1.out.size)⟩
      · have hsb : (s == 1) = false := by simpa using hss
        have HRR := Lib.hid (show r = false by rw [HRR0.out, hsb]; rfl)
        clear HRR0
        go_enter Try.func130, Try.ntmps130
        go_upto_region 4 with (go_at_call 139; (with_reducible refine (HSG.out _).mono ?_); rintro e9 w2 ⟨rfl, hb2⟩; obtain ⟨c0, c1, c2, c3, c4, c5⟩ := HC0.out w2 hb2)
        have HB1 := Lib.hid (HB0.out.trans (hb2.mono HB0.out.size))
        have HCW := Lib.hid (fun W (h : Below w2.heap.size w2 W) => HC0.out W (hb2.trans (h.mono hb2.size)))
        clear hb2 HB0 HC0 HSG c0 c1 c2 c3 c4 c5
        obtain ⟨B, hB⟩ : ∃ z, w.heap.size = z := ⟨_, rfl⟩
        simp only [hB] at HCW ⊢
        have HBe := Lib.hid hB
        clear hB
        refine wp_region_flow [none,none, some 22, none,none,none,none,none,none,none,none,none,none,none,none,none,none,none,none,none,none,none,none, some 0, some 1, some 2, some 3, some 4, some 5, some 6, some 7, some 8, some 9, some 10, some 11, some 12, some 13, some 14, some 15, some 16, some 17, some 18, some 19, some 20, some 21] (fun i => [undef,undef,undef,undef,undef,undef,undef,undef,undef,undef,undef,undef,undef,undef,undef,undef,undef,undef,undef,undef,undef,undef, .bool false].getD i undef) [(fun v _ => v = .bool false), (fun v _ => v = .bool false), (fun v _ => v = undef), (fun v _ => v = undef), (fun v _ => v = undef), (fun v _ => v = .bool false), (fun v _ => v = .bool false), (fun v _ => v = undef), (fun v _ => v = undef), (fun v _ => v = undef), (fun v _ => v = .bool false), (fun v _ => v = .bool false), (fun v _ => v = undef), (fun v _ => v = undef), (fun v _ => v = undef), (fun v _ => v = undef), (fun v _ => v = undef), (fun v _ => v = undef), (fun v _ => v = undef), (fun v _ => v = undef), (fun v _ => v = undef), (fun v _ => v = .bool false), (fun v _ => v = .bool false)] (by kernel_rfl) (by kernel_rfl) rfl rfl rfl ?_ ?_ ?_
        · intro g hg v X Y hX hY hv
          simp only [List.mem_cons, List.not_mem_nil, or_false] at hg
          rcases hg with rfl | rfl | rfl | rfl | rfl | rfl | rfl | rfl | rfl | rfl | rfl | rfl | rfl | rfl | rfl | rfl | rfl | rfl | rfl | rfl | rfl | rfl | rfl
          all_goals first
            | exact hv
            | exact hv.kept hY
        · simp only [flowOps, and_true]
          refine ⟨?_,?_,?_,?_,?_,?_,?_,?_,?_,?_,?_,?_,?_,?_,?_,?_,?_,?_,?_,?_,?_,?_,?_⟩
          · intro xs W hW hn
            simp only [flowAct, zwc, zwn]
            go_wp2_with (fail)
            exact ⟨rfl, _, rfl, Below.refl _ _, rfl⟩
          · intro xs W hW hn
            simp [flowNeeds, Region.binds] at hn
            simp only [flowAct, zwc, zwn]
            try simp only [hn]
            go_wp2_with (fail)
            exact ⟨rfl, _, rfl, Below.refl _ _, rfl⟩
          · intro xs W hW hn
            simp [flowNeeds, Region.binds] at hn
            simp only [flowAct, zwc, zwn]
            try simp only [hn]
            go_wp2_with (fail)
            exact ⟨rfl, _, rfl, Below.refl _ _, rfl⟩
          · intro xs W hW hn
            simp [flowNeeds, Region.binds] at hn
            simp only [flowAct, zwc, zwn]
            try simp only [hn]
            go_wp2_with (fail)
            exact ⟨rfl, _, rfl, Below.refl _ _, rfl⟩
          · intro xs W hW hn
            simp [flowNeeds, Region.binds] at hn
            simp only [flowAct, zwc, zwn]
            try simp only [hn]
            go_wp2_with (fail)
            exact ⟨rfl, _, rfl, Below.refl _ _, rfl⟩
          · intro xs W hW hn
            simp [flowNeeds, Region.binds] at hn
            simp only [flowAct, zwc, zwn]
            try simp only [hn]
            go_wp2_with (fail)
            exact ⟨rfl, _, rfl, Below.refl _ _, rfl⟩
          · intro xs W hW hn
            simp [flowNeeds, Region.binds] at hn
            simp only [flowAct, zwc, zwn]
            try simp only [hn]
            go_wp2_with (fail)
            exact ⟨rfl, _, rfl, Below.refl _ _, rfl⟩
          · intro xs W hW hn
            simp [flowNeeds, Region.binds] at hn
            simp only [flowAct, zwc, zwn]
            try simp only [hn]
            go_wp2_with (fail)
            exact ⟨rfl, _, rfl, Below.refl _ _, rfl⟩
          · intro xs W hW hn
            simp [flowNeeds, Region.binds] at hn
            simp only [flowAct, zwc, zwn]
            try simp only [hn]
            go_wp2_with (fail)
            exact ⟨rfl, _, rfl, Below.refl _ _, rfl⟩
          · intro xs W hW hn
            simp [flowNeeds, Region.binds] at hn
            simp only [flowAct, zwc, zwn]
            try simp only [hn]
            go_wp2_with (fail)
            exact ⟨rfl, _, rfl, Below.refl _ _, rfl⟩
          · intro xs W hW hn
            simp [flowNeeds, Region.binds] at hn
            simp only [flowAct, zwc, zwn]
            try simp only [hn]
            go_wp2_with (fail)
            exact ⟨rfl, _, rfl, Below.refl _ _, rfl⟩
          · intro xs W hW hn
            simp [flowNeeds, Region.binds] at hn
            simp only [flowAct, zwc, zwn]
            try simp only [hn]
            go_wp2_with (fail)
            exact ⟨rfl, _, rfl, Below.refl _ _, rfl⟩
          · intro xs W hW hn
            simp [flowNeeds, Region.binds] at hn
            simp only [flowAct, zwc, zwn]
            try simp only [hn]
            go_wp2_with (fail)
            exact ⟨rfl, _, rfl, Below.refl _ _, rfl⟩
          · intro xs W hW hn
            simp [flowNeeds, Region.binds] at hn
            simp only [flowAct, zwc, zwn]
            try simp only [hn]
            go_wp2_with (fail)
            exact ⟨rfl, _, rfl, Below.refl _ _, rfl⟩
          · intro xs W hW hn
            simp [flowNeeds, Region.binds] at hn
            simp only [flowAct, zwc, zwn]
            try simp only [hn]
            go_wp2_with (fail)
            exact ⟨rfl, _, rfl, Below.refl _ _, rfl⟩
          · intro xs W hW hn
            simp [flowNeeds, Region.binds] at hn
            simp only [flowAct, zwc, zwn]
            try simp only [hn]
            go_wp2_with (fail)
            exact ⟨rfl, _, rfl, Below.refl _ _, rfl⟩
          · intro xs W hW hn
            simp [flowNeeds, Region.binds] at hn
            simp only [flowAct, zwc, zwn]
            try simp only [hn]
            go_wp2_with (fail)
            exact ⟨rfl, _, rfl, Below.refl _ _, rfl⟩
          · intro xs W hW hn
            simp [flowNeeds, Region.binds] at hn
            simp only [flowAct, zwc, zwn]
            try simp only [hn]
            go_wp2_with (fail)
            exact ⟨rfl, _, rfl, Below.refl _ _, rfl⟩
          · intro xs W hW hn
            simp [flowNeeds, Region.binds] at hn
            simp only [flowAct, zwc, zwn]
            try simp only [hn]
            go_wp2_with (fail)
            exact ⟨rfl, _, rfl, Below.refl _ _, rfl⟩
          · intro xs W hW hn
            simp [flowNeeds, Region.binds] at hn
            simp only [flowAct, zwc, zwn]
            try simp only [hn]
            go_wp2_with (fail)
            exact ⟨rfl, _, rfl, Below.refl _ _, rfl⟩
          · intro xs W hW hn
            simp [flowNeeds, Region.binds] at hn
            simp only [flowAct, zwc, zwn]
            try simp only [hn]
            go_wp2_with (fail)
            exact ⟨rfl, _, rfl, Below.refl _ _, rfl⟩
          · intro xs W hW hn
            simp [flowNeeds, Region.binds] at hn
            simp only [flowAct, zwc, zwn]
            try simp only [hn]
            go_wp2_with (fail)
            exact ⟨rfl, _, rfl, Below.refl _ _, rfl⟩
          · intro xs W hW hn
            simp [flowNeeds, Region.binds] at hn
            simp only [flowAct, zwc, zwn]
            try simp only [hn]
            go_wp2_with (fail)
            exact ⟨rfl, _, rfl, Below.refl _ _, rfl⟩
        · intro xs W hW hall
          simp only [flowAll, and_true, Nat.zero_add, Nat.reduceAdd] at hall
          obtain ⟨-,-,-,-,-,-,-,-,-,-,-,-,-,-,-,-,-,-,-,-,-,-, e22⟩ := hall
          simp only [flowAct, zwc, zwn]
          simp only [e22]
          go_wp2
          go_ret
          exact ⟨by rw [HRR.out]; rfl, HB1.out.trans (hW.mono HB1.out.size)⟩
  · by_cases h2 : site = 2
    · subst h2
      have HRR0 := Lib.hid (show goodHeadS 2 seq n s a b = ((sgood n s && (s == 2)) && (vgood a b && (decide (1 ≤ seq) && (seq == b)))) from by simp [goodHeadS])
      obtain ⟨r, hr⟩ : ∃ r, goodHeadS 2 seq n s a b = r := ⟨_, rfl⟩
      rw [hr] at HRR0 ⊢
      have hsg := fun W => sgood_c n s W
      have hvg := fun W => vgood_c a b W
      obtain ⟨SG, hSG⟩ : ∃ z, sgood n s = z := ⟨_, rfl⟩
      obtain ⟨VG, hVG⟩ : ∃ z, vgood a b = z := ⟨_, rfl⟩
      rw [hSG, hVG] at HRR0
      simp only [hSG] at hsg
      simp only [hVG] at hvg
      have HSG := Lib.hid hsg
      have HVG := Lib.hid hvg
      clear hr hSG hVG hsg hvg
      cases SG with
      | false =>
        have HRR := Lib.hid (show r = false by rw [HRR0.out]; rfl)
        clear HRR0
        go_enter Try.func130, Try.ntmps130
        go_upto_region 4 with (go_at_call 139; (with_reducible refine (HSG.out _).mono ?_); rintro e9 w2 ⟨rfl, hb2⟩)
        have HB1 := Lib.hid (HB0.out.trans (hb2.mono HB0.out.size))
        have HCW := Lib.hid (fun W (h : Below w2.heap.size w2 W) => HC0.out W (hb2.trans (h.mono hb2.size)))
        clear hb2 HB0 HC0 HSG c0 c1 c2 c3 c4 c5
        obtain ⟨B, hB⟩ : ∃ z, w.heap.size = z := ⟨_, rfl⟩
        simp only [hB] at HCW ⊢
        have HBe := Lib.hid hB
        clear hB
        refine wp_region_flow [none,none, some 22, none,none,none,none,none,none,none,none,none,none,none,none,none,none,none,none,none,none,none,none, some 0, some 1, some 2, some 3, some 4, some 5, some 6, some 7, some 8, some 9, some 10, some 11, some 12, some 13, some 14, some 15, some 16, some 17, some 18, some 19, some 20, some 21] (fun i => [undef,undef,undef,undef,undef,undef,undef,undef,undef,undef,undef,undef,undef,undef,undef,undef,undef,undef,undef,undef,undef,undef, .bool false].getD i undef) [(fun v _ => v = .bool false), (fun v _ => v = .bool false), (fun v _ => v = undef), (fun v _ => v = undef), (fun v _ => v = undef), (fun v _ => v = .bool false), (fun v _ => v = .bool false), (fun v _ => v = undef), (fun v _ => v = undef), (fun v _ => v = undef), (fun v _ => v = .bool false), (fun v _ => v = .bool false), (fun v _ => v = undef), (fun v _ => v = undef), (fun v _ => v = undef), (fun v _ => v = undef), (fun v _ => v = undef), (fun v _ => v = undef), (fun v _ => v = undef), (fun v _ => v = undef), (fun v _ => v = undef), (fun v _ => v = .bool false), (fun v _ => v = .bool false)] (by kernel_rfl) (by kernel_rfl) rfl rfl rfl ?_ ?_ ?_
        · intro g hg v X Y hX hY hv
          simp only [List.mem_cons, List.not_mem_nil, or_false] at hg
          rcases hg with rfl | rfl | rfl | rfl | rfl | rfl | rfl | rfl | rfl | rfl | rfl | rfl | rfl | rfl | rfl | rfl | rfl | rfl | rfl | rfl | rfl | rfl | rfl
          all_goals first
            | exact hv
            | exact hv.kept hY
        · simp only [flowOps, and_true]
          refine ⟨?_,?_,?_,?_,?_,?_,?_,?_,?_,?_,?_,?_,?_,?_,?_,?_,?_,?_,?_,?_,?_,?_,?_⟩
          · intro xs W hW hn
            simp only [flowAct, zwc, zwn]
            go_wp2_with (fail)
            exact ⟨rfl, _, rfl, Below.refl _ _, rfl⟩
          · intro xs W hW hn
            simp [flowNeeds, Region.binds] at hn
            simp only [flowAct, zwc, zwn]
            try simp only [hn]
            go_wp2_with (fail)
            exact ⟨rfl, _, rfl, Below.refl _ _, rfl⟩
          · intro xs W hW hn
            simp [flowNeeds, Region.binds] at hn
            simp only [flowAct, zwc, zwn]
            try simp only [hn]
            go_wp2_with (fail)
            exact ⟨rfl, _, rfl, Below.refl _ _, rfl⟩
          · intro xs W hW hn
            simp [flowNeeds, Region.binds] at hn
            simp only [flowAct, zwc, zwn]
            try simp only [hn]
            go_wp2_with (fail)
            exact ⟨rfl, _, rfl, Below.refl _ _, rfl⟩
          · intro xs W hW hn
            simp [flowNeeds, Region.binds] at hn
            simp only [flowAct, zwc, zwn]
            try simp only [hn]
            go_wp2_with (fail)
            exact ⟨rfl, _, rfl, Below.refl _ _, rfl⟩
          · intro xs W hW hn
            simp [flowNeeds, Region.binds] at hn
            simp only [flowAct, zwc, zwn]
            try simp only [hn]
            go_wp2_with (fail)
            exact ⟨rfl, _, rfl, Below.refl _ _, rfl⟩
          · intro xs W hW hn
            simp [flowNeeds, Region.binds] at hn
            simp only [flowAct, zwc, zwn]
            try simp only [hn]
            go_wp2_with (fail)
            exact ⟨rfl, _, rfl, Below.refl _ _, rfl⟩
          · intro xs W hW hn
            simp [flowNeeds, Region.binds] at hn
            simp only [flowAct, zwc, zwn]
            try simp only [hn]
            go_wp2_with (fail)
            exact ⟨rfl, _, rfl, Below.refl _ _, rfl⟩
          · intro xs W hW hn
            simp [flowNeeds, Region.binds] at hn
            simp only [flowAct, zwc, zwn]
            try simp only [hn]
            go_wp2_with (fail)
            exact ⟨rfl, _, rfl, Below.refl _ _, rfl⟩
          · intro xs W hW hn
            simp [flowNeeds, Region.binds] at hn
            simp only [flowAct, zwc, zwn]
            try simp only [hn]
            go_wp2_with (fail)
            exact ⟨rfl, _, rfl, Below.refl _ _, rfl⟩
          · intro xs W hW hn
            simp [flowNeeds, Region.binds] at hn
            simp only [flowAct, zwc, zwn]
            try simp only [hn]
            go_wp2_with (fail)
            exact ⟨rfl, _, rfl, Below.refl _ _, rfl⟩
          · intro xs W hW hn
            simp [flowNeeds, Region.binds] at hn
            simp only [flowAct, zwc, zwn]
            try simp only [hn]
            go_wp2_with (fail)
            exact ⟨rfl, _, rfl, Below.refl _ _, rfl⟩
          · intro xs W hW hn
            simp [flowNeeds, Region.binds] at hn
            simp only [flowAct, zwc, zwn]
            try simp only [hn]
            go_wp2_with (fail)
            exact ⟨rfl, _, rfl, Below.refl _ _, rfl⟩
          · intro xs W hW hn
            simp [flowNeeds, Region.binds] at hn
            simp only [flowAct, zwc, zwn]
            try simp only [hn]
            go_wp2_with (fail)
            exact ⟨rfl, _, rfl, Below.refl _ _, rfl⟩
          · intro xs W hW hn
            simp [flowNeeds, Region.binds] at hn
            simp only [flowAct, zwc, zwn]
            try simp only [hn]
            go_wp2_with (fail)
            exact ⟨rfl, _, rfl, Below.refl _ _, rfl⟩
          · intro xs W hW hn
            simp [flowNeeds, Region.binds] at hn
            simp only [flowAct, zwc, zwn]
            try simp only [hn]
            go_wp2_with (fail)
            exact ⟨rfl, _, rfl, Below.refl _ _, rfl⟩
          · intro xs W hW hn
            simp [flowNeeds, Region.binds] at hn
            simp only [flowAct, zwc, zwn]
            try simp only [hn]
            go_wp2_with (fail)
            exact ⟨rfl, _, rfl, Below.refl _ _, rfl⟩
          · intro xs W hW hn
            simp [flowNeeds, Region.binds] at hn
            simp only [flowAct, zwc, zwn]
            try simp only [hn]
            go_wp2_with (fail)
            exact ⟨rfl, _, rfl, Below.refl _ _, rfl⟩
          · intro xs W hW hn
            simp [flowNeeds, Region.binds] at hn
            simp only [flowAct, zwc, zwn]
            try simp only [hn]
            go_wp2_with (fail)
            exact ⟨rfl, _, rfl, Below.refl _ _, rfl⟩
          · intro xs W hW hn
            simp [flowNeeds, Region.binds] at hn
            simp only [flowAct, zwc, zwn]
            try simp only [hn]
            go_wp2_with (fail)
            exact ⟨rfl, _, rfl, Below.refl _ _, rfl⟩
          · intro xs W hW hn
            simp [flowNeeds, Region.binds] at hn
            simp only [flowAct, zwc, zwn]
            try simp only [hn]
            go_wp2_with (fail)
            exact ⟨rfl, _, rfl, Below.refl _ _, rfl⟩
          · intro xs W hW hn
            simp [flowNeeds, Region.binds] at hn
            simp only [flowAct, zwc, zwn]
            try simp only [hn]
            go_wp2_with (fail)
            exact ⟨rfl, _, rfl, Below.refl _ _, rfl⟩
          · intro xs W hW hn
            simp [flowNeeds, Region.binds] at hn
            simp only [flowAct, zwc, zwn]
            try simp only [hn]
            go_wp2_with (fail)
            exact ⟨rfl, _, rfl, Below.refl _ _, rfl⟩
        · intro xs W hW hall
          simp only [flowAll, and_true, Nat.zero_add, Nat.reduceAdd] at hall
          obtain ⟨-,-,-,-,-,-,-,-,-,-,-,-,-,-,-,-,-,-,-,-,-,-, e22⟩ := hall
          simp only [flowAct, zwc, zwn]
          simp only [e22]
          go_wp2
          go_ret
          exact ⟨by rw [HRR.out]; rfl, HB1.out.trans (hW.mono HB1.out.size)⟩
      | true =>
        by_cases hss : s = 2
        · have hsb : (s == 2) = true := by simpa using hss
          subst hss
          rw [hsb] at HRR0
          clear hsb
          go_enter Try.func130, Try.ntmps130
          go_upto_region 4 with (go_at_call 139; (with_reducible refine (HSG.out _).mono ?_); rintro e9 w2 ⟨rfl, hb2⟩; obtain ⟨c0, c1, c2, c3, c4, c5⟩ := HC0.out w2 hb2)
          have HB1 := Lib.hid (HB0.out.trans (hb2.mono HB0.out.size))
          have HCW := Lib.hid (fun W (h : Below w2.heap.size w2 W) => HC0.out W (hb2.trans (h.mono hb2.size)))
          clear hb2 HB0 HC0 HSG c0 c1 c2 c3 c4 c5
          obtain ⟨B, hB⟩ : ∃ z, w.heap.size = z := ⟨_, rfl⟩
          simp only [hB] at HCW ⊢
          have HBe := Lib.hid hB
          clear hB
          cases VG with
          | false =>
            have HRR := Lib.hid (show r = false by rw [HRR0.out]; rfl)
            clear HRR0
            refine wp_region_flow [none,none, some 22, none,none,none,none,none,none,none,none,none,none,none,none,none,none,none,none,none,none,none,none, some 0, some 1, some 2, some 3, some 4, some 5, some 6, some 7, some 8, some 9, some 10, some 11, some 12, some 13, some 14, some 15, some 16, some 17, some 18, some 19, some 20, some 21] (fun i => [undef,undef,undef,undef,undef,undef,undef,undef,undef,undef,undef,undef,undef,undef,undef,undef,undef,undef,undef,undef,undef,undef, .bool false].getD i undef) [(fun v _ => v = .bool true), (fun v _ => v = .bool true), (fun v _ => v = .pointer (some ⟨B, 4, none⟩)), (fun v _ => v = .agg #[.int .i64 a, .int .i64 b]), (fun v _ => v = .bool false), (fun v _ => v = .bool false), (fun v _ => v = .bool false), (fun v _ => v = undef), (fun v _ => v = undef), (fun v _ => v = undef), (fun v _ => v = .bool false), (fun v _ => v = .bool false), (fun v _ => v = undef), (fun v _ => v = undef), (fun v _ => v = undef), (fun v _ => v = undef), (fun v _ => v = undef), (fun v _ => v = undef), (fun v _ => v = undef), (fun v _ => v = undef), (fun v _ => v = undef), (fun v _ => v = .bool false), (fun v _ => v = .bool false)] (by kernel_rfl) (by kernel_rfl) rfl rfl rfl ?_ ?_ ?_
            · intro g hg v X Y hX hY hv
              simp only [List.mem_cons, List.not_mem_nil, or_false] at hg
              rcases hg with rfl | rfl | rfl | rfl | rfl | rfl | rfl | rfl | rfl | rfl | rfl | rfl | rfl | rfl | rfl | rfl | rfl | rfl | rfl | rfl | rfl | rfl | rfl
              all_goals first
                | exact hv
                | exact hv.kept hY
            · simp only [flowOps, and_true]
              refine ⟨?_,?_,?_,?_,?_,?_,?_,?_,?_,?_,?_,?_,?_,?_,?_,?_,?_,?_,?_,?_,?_,?_,?_⟩
              · intro xs W hW hn
                simp only [flowAct, zwc, zwn]
                go_wp2_with (fail)
                exact ⟨rfl, _, rfl, Below.refl _ _, rfl⟩
              · intro xs W hW hn
                simp [flowNeeds, Region.binds] at hn
                simp only [flowAct, zwc, zwn]
                try simp only [hn]
                go_wp2_with (fail)
                exact ⟨rfl, _, rfl, Below.refl _ _, rfl⟩
              · intro xs W hW hn
                simp [flowNeeds, Region.binds] at hn
                simp only [flowAct, zwc, zwn]
                try simp only [hn]
                go_wp2_with (fail)
                exact ⟨rfl, _, rfl, Below.refl _ _, rfl⟩
              · intro xs W hW hn
                obtain ⟨c0, c1, c2, c3, c4, c5⟩ := HCW.out W hW
                simp [flowNeeds, Region.binds] at hn
                simp only [flowAct, zwc, zwn]
                try simp only [hn]
                go_wp2_with (fail)
                exact ⟨rfl, _, rfl, Below.refl _ _, rfl⟩
              · intro xs W hW hn
                simp [flowNeeds, Region.binds] at hn
                simp only [flowAct, zwc, zwn]
                try simp only [hn]
                go_wp2_with (go_at_call 127; (with_reducible refine (HVG.out _).mono ?_); rintro e9 w9 ⟨rfl, hb9⟩)
                exact ⟨rfl, _, rfl, hb9, rfl⟩
              · intro xs W hW hn
                simp [flowNeeds, Region.binds] at hn
                simp only [flowAct, zwc, zwn]
                try simp only [hn]
                go_wp2_with (fail)
                exact ⟨rfl, _, rfl, Below.refl _ _, rfl⟩
              · intro xs W hW hn
                simp [flowNeeds, Region.binds] at hn
                simp only [flowAct, zwc, zwn]
                try simp only [hn]
                go_wp2_with (fail)
                exact ⟨rfl, _, rfl, Below.refl _ _, rfl⟩
              · intro xs W hW hn
                simp [flowNeeds, Region.binds] at hn
                simp only [flowAct, zwc, zwn]
                try simp only [hn]
                go_wp2_with (fail)
                exact ⟨rfl, _, rfl, Below.refl _ _, rfl⟩
              · intro xs W hW hn
                simp [flowNeeds, Region.binds] at hn
                simp only [flowAct, zwc, zwn]
                try simp only [hn]
                go_wp2_with (fail)
                exact ⟨rfl, _, rfl, Below.refl _ _, rfl⟩
              · intro xs W hW hn
                simp [flowNeeds, Region.binds] at hn
                simp only [flowAct, zwc, zwn]
                try simp only [hn]
                go_wp2_with (fail)
                exact ⟨rfl, _, rfl, Below.refl _ _, rfl⟩
              · intro xs W hW hn
                simp [flowNeeds, Region.binds] at hn
                simp only [flowAct, zwc, zwn]
                try simp only [hn]
                go_wp2_with (fail)
                exact ⟨rfl, _, rfl, Below.refl _ _, rfl⟩
              · intro xs W hW hn
                simp [flowNeeds, Region.binds] at hn
                simp only [flowAct, zwc, zwn]
                try simp only [hn]
                go_wp2_with (fail)
                exact ⟨rfl, _, rfl, Below.refl _ _, rfl⟩
              · intro xs W hW hn
                simp [flowNeeds, Region.binds] at hn
                simp only [flowAct, zwc, zwn]
                try simp only [hn]
                go_wp2_with (fail)
                exact ⟨rfl, _, rfl, Below.refl _ _, rfl⟩
              · intro xs W hW hn
                simp [flowNeeds, Region.binds] at hn
                simp only [flowAct, zwc, zwn]
                try simp only [hn]
                go_wp2_with (fail)
                exact ⟨rfl, _, rfl, Below.refl _ _, rfl⟩
              · intro xs W hW hn
                simp [flowNeeds, Region.binds] at hn
                simp only [flowAct, zwc, zwn]
                try simp only [hn]
                go_wp2_with (fail)
                exact ⟨rfl, _, rfl, Below.refl _ _, rfl⟩
              · intro xs W hW hn
                simp [flowNeeds, Region.binds] at hn
                simp only [flowAct, zwc, zwn]
                try simp only [hn]
                go_wp2_with (fail)
                exact ⟨rfl, _, rfl, Below.refl _ _, rfl⟩
              · intro xs W hW hn
                simp [flowNeeds, Region.binds] at hn
                simp only [flowAct, zwc, zwn]
                try simp only [hn]
                go_wp2_with (fail)
                exact ⟨rfl, _, rfl, Below.refl _ _, rfl⟩
              · intro xs W hW hn
                simp [flowNeeds, Region.binds] at hn
                simp only [flowAct, zwc, zwn]
                try simp only [hn]
                go_wp2_with (fail)
                exact ⟨rfl, _, rfl, Below.refl _ _, rfl⟩
              · intro xs W hW hn
                simp [flowNeeds, Region.binds] at hn
                simp only [flowAct, zwc, zwn]
                try simp only [hn]
                go_wp2_with (fail)
                exact ⟨rfl, _, rfl, Below.refl _ _, rfl⟩
              · intro xs W hW hn
                simp [flowNeeds, Region.binds] at hn
                simp only [flowAct, zwc, zwn]
                try simp only [hn]
                go_wp2_with (fail)
                exact ⟨rfl, _, rfl, Below.refl _ _, rfl⟩
              · intro xs W hW hn
                simp [flowNeeds, Region.binds] at hn
                simp only [flowAct, zwc, zwn]
                try simp only [hn]
                go_wp2_with (fail)
                exact ⟨rfl, _, rfl, Below.refl _ _, rfl⟩
              · intro xs W hW hn
                simp [flowNeeds, Region.binds] at hn
                simp only [flowAct, zwc, zwn]
                try simp only [hn]
                go_wp2_with (fail)
                exact ⟨rfl, _, rfl, Below.refl _ _, rfl⟩
              · intro xs W hW hn
                simp [flowNeeds, Region.binds] at hn
                simp only [flowAct, zwc, zwn]
                try simp only [hn]
                go_wp2_with (fail)
                exact ⟨rfl, _, rfl, Below.refl _ _, rfl⟩
            · intro xs W hW hall
              simp only [flowAll, and_true, Nat.zero_add, Nat.reduceAdd] at hall
              obtain ⟨-,-,-,-,-,-,-,-,-,-,-,-,-,-,-,-,-,-,-,-,-,-, e22⟩ := hall
              simp only [flowAct, zwc, zwn]
              simp only [e22]
              go_wp2
              go_ret
              exact ⟨by rw [HRR.out]; rfl, HB1.out.trans (hW.mono HB1.out.size)⟩
          | true =>
            by_cases hq : 1 ≤ seq
            · have HRR := Lib.hid (show r = (seq == b) by rw [HRR0.out]; simp [hq])
              clear HRR0
              refine wp_region_flow [none,none, some 22, none,none,none,none,none,none,none,none,none,none,none,none,none,none,none,none,none,none,none,none, some 0, some 1, some 2, some 3, some 4, some 5, some 6, some 7, some 8, some 9, some 10, some 11, some 12, some 13, some 14, some 15, some 16, some 17, some 18, some 19, some 20, some 21] (fun i => [undef,undef,undef,undef,undef,undef,undef,undef,undef,undef,undef,undef,undef,undef,undef,undef,undef,undef,undef,undef,undef,undef, .bool false].getD i undef) [(fun v _ => v = .bool true), (fun v _ => v = .bool true), (fun v _ => v = .pointer (some ⟨B, 4, none⟩)), (fun v _ => v = .agg #[.int .i64 a, .int .i64 b]), (fun v _ => v = .bool true), (fun v _ => v = .bool true), (fun v _ => v = .bool true), (fun v _ => v = .pointer (some ⟨B, 1, none⟩)), (fun v _ => v = .int .i64 seq), (fun v _ => v = .bool true), (fun v _ => v = .bool true), (fun v _ => v = .bool true), (fun v _ => v = .pointer (some ⟨B, 1, none⟩)), (fun v _ => v = .int .i64 seq), (fun v _ => v = .pointer (some ⟨B, 0, none⟩)), (fun v _ => v = .int .i64 2), (fun v _ => v = .int .i64 1), (fun v _ => v = .pointer (some ⟨B, 4, none⟩)), (fun v _ => v = .pointer (some ⟨B, 5, none⟩)), (fun v _ => v = .int .i64 b), (fun v _ => v = .bool (seq == b)), (fun v _ => v = .bool (seq == b)), (fun v _ => v = .bool (seq == b))] (by kernel_rfl) (by kernel_rfl) rfl rfl rfl ?_ ?_ ?_
              · intro g hg v X Y hX hY hv
                simp only [List.mem_cons, List.not_mem_nil, or_false] at hg
                rcases hg with rfl | rfl | rfl | rfl | rfl | rfl | rfl | rfl | rfl | rfl | rfl | rfl | rfl | rfl | rfl | rfl | rfl | rfl | rfl | rfl | rfl | rfl | rfl
                all_goals first
                  | exact hv
                  | exact hv.kept hY
              · simp only [flowOps, and_true]
                refine ⟨?_,?_,?_,?_,?_,?_,?_,?_,?_,?_,?_,?_,?_,?_,?_,?_,?_,?_,?_,?_,?_,?_,?_⟩
                · intro xs W hW hn
                  simp only [flowAct, zwc, zwn]
                  go_wp2_with (fail)
                  exact ⟨rfl, _, rfl, Below.refl _ _, rfl⟩
                · intro xs W hW hn
                  simp [flowNeeds, Region.binds] at hn
                  simp only [flowAct, zwc, zwn]
                  try simp only [hn]
                  go_wp2_with (fail)
                  exact ⟨rfl, _, rfl, Below.refl _ _, rfl⟩
                · intro xs W hW hn
                  simp [flowNeeds, Region.binds] at hn
                  simp only [flowAct, zwc, zwn]
                  try simp only [hn]
                  go_wp2_with (fail)
                  exact ⟨rfl, _, rfl, Below.refl _ _, rfl⟩
                · intro xs W hW hn
                  obtain ⟨c0, c1, c2, c3, c4, c5⟩ := HCW.out W hW
                  simp [flowNeeds, Region.binds] at hn
                  simp only [flowAct, zwc, zwn]
                  try simp only [hn]
                  go_wp2_with (fail)
                  exact ⟨rfl, _, rfl, Below.refl _ _, rfl⟩
                · intro xs W hW hn
                  simp [flowNeeds, Region.binds] at hn
                  simp only [flowAct, zwc, zwn]
                  try simp only [hn]
                  go_wp2_with (go_at_call 127; (with_reducible refine (HVG.out _).mono ?_); rintro e9 w9 ⟨rfl, hb9⟩)
                  exact ⟨rfl, _, rfl, hb9, rfl⟩
                · intro xs W hW hn
                  simp [flowNeeds, Region.binds] at hn
                  simp only [flowAct, zwc, zwn]
                  try simp only [hn]
                  go_wp2_with (fail)
                  exact ⟨rfl, _, rfl, Below.refl _ _, rfl⟩
                · intro xs W hW hn
                  simp [flowNeeds, Region.binds] at hn
                  simp only [flowAct, zwc, zwn]
                  try simp only [hn]
                  go_wp2_with (fail)
                  exact ⟨rfl, _, rfl, Below.refl _ _, rfl⟩
                · intro xs W hW hn
                  simp [flowNeeds, Region.binds] at hn
                  simp only [flowAct, zwc, zwn]
                  try simp only [hn]
                  go_wp2_with (fail)
                  exact ⟨rfl, _, rfl, Below.refl _ _, rfl⟩
                · intro xs W hW hn
                  obtain ⟨c0, c1, c2, c3, c4, c5⟩ := HCW.out W hW
                  simp [flowNeeds, Region.binds] at hn
                  simp only [flowAct, zwc, zwn]
                  try simp only [hn]
                  go_wp2_with (fail)
                  exact ⟨rfl, _, rfl, Below.refl _ _, rfl⟩
                · intro xs W hW hn
                  simp [flowNeeds, Region.binds] at hn
                  simp only [flowAct, zwc, zwn]
                  try simp only [hn]
                  go_wp2_with (fail)
                  exact ⟨rfl, _, rfl, Below.refl _ _, by first | rfl | go_num | (simp; done)⟩
                · intro xs W hW hn
                  simp [flowNeeds, Region.binds] at hn
                  simp only [flowAct, zwc, zwn]
                  try simp only [hn]
                  go_wp2_with (fail)
                  exact ⟨rfl, _, rfl, Below.refl _ _, rfl⟩
                · intro xs W hW hn
                  simp [flowNeeds, Region.binds] at hn
                  simp only [flowAct, zwc, zwn]
                  try simp only [hn]
                  go_wp2_with (fail)
                  exact ⟨rfl, _, rfl, Below.refl _ _, rfl⟩
                · intro xs W hW hn
                  simp [flowNeeds, Region.binds] at hn
                  simp only [flowAct, zwc, zwn]
                  try simp only [hn]
                  go_wp2_with (fail)
                  exact ⟨rfl, _, rfl, Below.refl _ _, rfl⟩
                · intro xs W hW hn
                  obtain ⟨c0, c1, c2, c3, c4, c5⟩ := HCW.out W hW
                  simp [flowNeeds, Region.binds] at hn
                  simp only [flowAct, zwc, zwn]
                  try simp only [hn]
                  go_wp2_with (fail)
                  exact ⟨rfl, _, rfl, Below.refl _ _, rfl⟩
                · intro xs W hW hn
                  simp [flowNeeds, Region.binds] at hn
                  simp only [flowAct, zwc, zwn]
                  try simp only [hn]
                  go_wp2_with (fail)
                  exact ⟨rfl, _, rfl, Below.refl _ _, rfl⟩
                · intro xs W hW hn
                  obtain ⟨c0, c1, c2, c3, c4, c5⟩ := HCW.out W hW
                  simp [flowNeeds, Region.binds] at hn
                  simp only [flowAct, zwc, zwn]
                  try simp only [hn]
                  go_wp2_with (fail)
                  exact ⟨rfl, _, rfl, Below.refl _ _, rfl⟩
                · intro xs W hW hn
                  simp [flowNeeds, Region.binds] at hn
                  simp only [flowAct, zwc, zwn]
                  try simp only [hn]
                  go_wp2_with (fail)
                  exact ⟨rfl, _, rfl, Below.refl _ _, by first | rfl | go_num | (simp; done)⟩
                · intro xs W hW hn
                  simp [flowNeeds, Region.binds] at hn
                  simp only [flowAct, zwc, zwn]
                  try simp only [hn]
                  go_wp2_with (fail)
                  exact ⟨rfl, _, rfl, Below.refl _ _, rfl⟩
                · intro xs W hW hn
                  simp [flowNeeds, Region.binds] at hn
                  simp only [flowAct, zwc, zwn]
                  try simp only [hn]
                  go_wp2_with (fail)
                  exact ⟨rfl, _, rfl, Below.refl _ _, by first | rfl | go_num | (simp; done)⟩
                · intro xs W hW hn
                  obtain ⟨c0, c1, c2, c3, c4, c5⟩ := HCW.out W hW
                  simp [flowNeeds, Region.binds] at hn
                  simp only [flowAct, zwc, zwn]
                  try simp only [hn]
                  go_wp2_with (fail)
                  exact ⟨rfl, _, rfl, Below.refl _ _, rfl⟩
                · intro xs W hW hn
                  simp [flowNeeds, Region.binds] at hn
                  simp only [flowAct, zwc, zwn]
                  try simp only [hn]
                  go_wp2_with (fail)
                  exact ⟨rfl, _, rfl, Below.refl _ _, by first | rfl | go_num | (simp; done)⟩
                · intro xs W hW hn
                  simp [flowNeeds, Region.binds] at hn
                  simp only [flowAct, zwc, zwn]
                  try simp only [hn]
                  go_wp2_with (fail)
                  exact ⟨rfl, _, rfl, Below.refl _ _, rfl⟩
                · intro xs W hW hn
                  simp [flowNeeds, Region.binds] at hn
                  simp only [flowAct, zwc, zwn]
                  try simp only [hn]
                  go_wp2_with (fail)
                  exact ⟨rfl, _, rfl, Below.refl _ _, rfl⟩
              · intro xs W hW hall
                simp only [flowAll, and_true, Nat.zero_add, Nat.reduceAdd] at hall
                obtain ⟨-,-,-,-,-,-,-,-,-,-,-,-,-,-,-,-,-,-,-,-,-,-, e22⟩ := hall
                simp only [flowAct, zwc, zwn]
                simp only [e22]
                go_wp2
                go_ret
                exact ⟨by rw [HRR.out]; rfl, HB1.out.trans (hW.mono HB1.out.size)⟩
            · have HRR := Lib.hid (show r = false by rw [HRR0.out]; simp [hq])
              clear HRR0
              refine wp_region_flow [none,none, some 22, none,none,none,none,none,none,none,none,none,none,none,none,none,none,none,none,none,none,none,none, some 0, some 1, some 2, some 3, some 4, some 5, some 6, some 7, some 8, some 9, some 10, some 11, some 12, some 13, some 14, some 15, some 16, some 17, some 18, some 19, some 20, some 21] (fun i => [undef,undef,undef,undef,undef,undef,undef,undef,undef,undef,undef,undef,undef,undef,undef,undef,undef,undef,undef,undef,undef,undef, .bool false].getD i undef) [(fun v _ => v = .bool true), (fun v _ => v = .bool true), (fun v _ => v = .pointer (some ⟨B, 4, none⟩)), (fun v _ => v = .agg #[.int .i64 a, .int .i64 b]), (fun v _ => v = .bool true), (fun v _ => v = .bool true), (fun v _ => v = .bool true), (fun v _ => v = .pointer (some ⟨B, 1, none⟩)), (fun v _ => v = .int .i64 seq), (fun v _ => v = .bool false), (fun v _ => v = .bool false), (fun v _ => v = .bool false), (fun v _ => v = undef), (fun v _ => v = undef), (fun v _ => v = undef), (fun v _ => v = undef), (fun v _ => v = undef), (fun v _ => v = undef), (fun v _ => v = undef), (fun v _ => v = undef), (fun v _ => v = undef), (fun v _ => v = .bool false), (fun v _ => v = .bool false)] (by kernel_rfl) (by kernel_rfl) rfl rfl rfl ?_ ?_ ?_
              · intro g hg v X Y hX hY hv
                simp only [List.mem_cons, List.not_mem_nil, or_false] at hg
                rcases hg with rfl | rfl | rfl | rfl | rfl | rfl | rfl | rfl | rfl | rfl | rfl | rfl | rfl | rfl | rfl | rfl | rfl | rfl | rfl | rfl | rfl | rfl | rfl
                all_goals first
                  | exact hv
                  | exact hv.kept hY
              · simp only [flowOps, and_true]
                refine ⟨?_,?_,?_,?_,?_,?_,?_,?_,?_,?_,?_,?_,?_,?_,?_,?_,?_,?_,?_,?_,?_,?_,?_⟩
                · intro xs W hW hn
                  simp only [flowAct, zwc, zwn]
                  go_wp2_with (fail)
                  exact ⟨rfl, _, rfl, Below.refl _ _, rfl⟩
                · intro xs W hW hn
                  simp [flowNeeds, Region.binds] at hn
                  simp only [flowAct, zwc, zwn]
                  try simp only [hn]
                  go_wp2_with (fail)
                  exact ⟨rfl, _, rfl, Below.refl _ _, rfl⟩
                · intro xs W hW hn
                  simp [flowNeeds, Region.binds] at hn
                  simp only [flowAct, zwc, zwn]
                  try simp only [hn]
                  go_wp2_with (fail)
                  exact ⟨rfl, _, rfl, Below.refl _ _, rfl⟩
                · intro xs W hW hn
                  obtain ⟨c0, c1, c2, c3, c4, c5⟩ := HCW.out W hW
                  simp [flowNeeds, Region.binds] at hn
                  simp only [flowAct, zwc, zwn]
                  try simp only [hn]
                  go_wp2_with (fail)
                  exact ⟨rfl, _, rfl, Below.refl _ _, rfl⟩
                · intro xs W hW hn
                  simp [flowNeeds, Region.binds] at hn
                  simp only [flowAct, zwc, zwn]
                  try simp only [hn]
                  go_wp2_with (go_at_call 127; (with_reducible refine (HVG.out _).mono ?_); rintro e9 w9 ⟨rfl, hb9⟩)
                  exact ⟨rfl, _, rfl, hb9, rfl⟩
                · intro xs W hW hn
                  simp [flowNeeds, Region.binds] at hn
                  simp only [flowAct, zwc, zwn]
                  try simp only [hn]
                  go_wp2_with (fail)
                  exact ⟨rfl, _, rfl, Below.refl _ _, rfl⟩
                · intro xs W hW hn
                  simp [flowNeeds, Region.binds] at hn
                  simp only [flowAct, zwc, zwn]
                  try simp only [hn]
                  go_wp2_with (fail)
                  exact ⟨rfl, _, rfl, Below.refl _ _, rfl⟩
                · intro xs W hW hn
                  simp [flowNeeds, Region.binds] at hn
                  simp only [flowAct, zwc, zwn]
                  try simp only [hn]
                  go_wp2_with (fail)
                  exact ⟨rfl, _, rfl, Below.refl _ _, rfl⟩
                · intro xs W hW hn
                  obtain ⟨c0, c1, c2, c3, c4, c5⟩ := HCW.out W hW
                  simp [flowNeeds, Region.binds] at hn
                  simp only [flowAct, zwc, zwn]
                  try simp only [hn]
                  go_wp2_with (fail)
                  exact ⟨rfl, _, rfl, Below.refl _ _, rfl⟩
                · intro xs W hW hn
                  simp [flowNeeds, Region.binds] at hn
                  simp only [flowAct, zwc, zwn]
                  try simp only [hn]
                  go_wp2_with (fail)
                  exact ⟨rfl, _, rfl, Below.refl _ _, by first | rfl | go_num | (simp; done)⟩
                · intro xs W hW hn
                  simp [flowNeeds, Region.binds] at hn
                  simp only [flowAct, zwc, zwn]
                  try simp only [hn]
                  go_wp2_with (fail)
                  exact ⟨rfl, _, rfl, Below.refl _ _, rfl⟩
                · intro xs W hW hn
                  simp [flowNeeds, Region.binds] at hn
                  simp only [flowAct, zwc, zwn]
                  try simp only [hn]
                  go_wp2_with (fail)
                  exact ⟨rfl, _, rfl, Below.refl _ _, rfl⟩
                · intro xs W hW hn
                  simp [flowNeeds, Region.binds] at hn
                  simp only [flowAct, zwc, zwn]
                  try simp only [hn]
                  go_wp2_with (fail)
                  exact ⟨rfl, _, rfl, Below.refl _ _, rfl⟩
                · intro xs W hW hn
                  simp [flowNeeds, Region.binds] at hn
                  simp only [flowAct, zwc, zwn]
                  try simp only [hn]
                  go_wp2_with (fail)
                  exact ⟨rfl, _, rfl, Below.refl _ _, rfl⟩
                · intro xs W hW hn
                  simp [flowNeeds, Region.binds] at hn
                  simp only [flowAct, zwc, zwn]
                  try simp only [hn]
                  go_wp2_with (fail)
                  exact ⟨rfl, _, rfl, Below.refl _ _, rfl⟩
                · intro xs W hW hn
                  simp [flowNeeds, Region.binds] at hn
                  simp only [flowAct, zwc, zwn]
                  try simp only [hn]
                  go_wp2_with (fail)
                  exact ⟨rfl, _, rfl, Below.refl _ _, rfl⟩
                · intro xs W hW hn
                  simp [flowNeeds, Region.binds] at hn
                  simp only [flowAct, zwc, zwn]
                  try simp only [hn]
                  go_wp2_with (fail)
                  exact ⟨rfl, _, rfl, Below.refl _ _, rfl⟩
                · intro xs W hW hn
                  simp [flowNeeds, Region.binds] at hn
                  simp only [flowAct, zwc, zwn]
                  try simp only [hn]
                  go_wp2_with (fail)
                  exact ⟨rfl, _, rfl, Below.refl _ _, rfl⟩
                · intro xs W hW hn
                  simp [flowNeeds, Region.binds] at hn
                  simp only [flowAct, zwc, zwn]
                  try simp only [hn]
                  go_wp2_with (fail)
                  exact ⟨rfl, _, rfl, Below.refl _ _, rfl⟩
                · intro xs W hW hn
                  simp [flowNeeds, Region.binds] at hn
                  simp only [flowAct, zwc, zwn]
                  try simp only [hn]
                  go_wp2_with (fail)
                  exact ⟨rfl, _, rfl, Below.refl _ _, rfl⟩
                · intro xs W hW hn
                  simp [flowNeeds, Region.binds] at hn
                  simp only [flowAct, zwc, zwn]
                  try simp only [hn]
                  go_wp2_with (fail)
                  exact ⟨rfl, _, rfl, Below.refl _ _, rfl⟩
                · intro xs W hW hn
                  simp [flowNeeds, Region.binds] at hn
                  simp only [flowAct, zwc, zwn]
                  try simp only [hn]
                  go_wp2_with (fail)
                  exact ⟨rfl, _, rfl, Below.refl _ _, rfl⟩
                · intro xs W hW hn
                  simp [flowNeeds, Region.binds] at hn
                  simp only [flowAct, zwc, zwn]
                  try simp only [hn]
                  go_wp2_with (fail)
                  exact ⟨rfl, _, rfl, Below.refl _ _, rfl⟩
              · intro xs W hW hall
                simp only [flowAll, and_true, Nat.zero_add, Nat.reduceAdd] at hall
                obtain ⟨-,-,-,-,-,-,-,-,-,-,-,-,-,-,-,-,-,-,-,-,-,-, e22⟩ := hall
                simp only [flowAct, zwc, zwn]
                simp only [e22]
                go_wp2
                go_ret
                exact ⟨by rw [HRR.out]; rfl, HB1.out.trans (hW.mono HB1.out.size)⟩
        · have hsb : (s == 2) = false := by simpa using hss
          have HRR := Lib.hid (show r = false by rw [HRR0.out, hsb]; rfl)
          clear HRR0
          go_enter Try.func130, Try.ntmps130
          go_upto_region 4 with (go_at_call 139; (with_reducible refine (HSG.out _).mono ?_); rintro e9 w2 ⟨rfl, hb2⟩; obtain ⟨c0, c1, c2, c3, c4, c5⟩ := HC0.out w2 hb2)
          have HB1 := Lib.hid (HB0.out.trans (hb2.mono HB0.out.size))
          have HCW := Lib.hid (fun W (h : Below w2.heap.size w2 W) => HC0.out W (hb2.trans (h.mono hb2.size)))
          clear hb2 HB0 HC0 HSG c0 c1 c2 c3 c4 c5
          obtain ⟨B, hB⟩ : ∃ z, w.heap.size = z := ⟨_, rfl⟩
          simp only [hB] at HCW ⊢
          have HBe := Lib.hid hB
          clear hB
          refine wp_region_flow [none,none, some 22, none,none,none,none,none,none,none,none,none,none,none,none,none,none,none,none,none,none,none,none, some 0, some 1, some 2, some 3, some 4, some 5, some 6, some 7, some 8, some 9, some 10, some 11, some 12, some 13, some 14, some 15, some 16, some 17, some 18, some 19, some 20, some 21] (fun i => [undef,undef,undef,undef,undef,undef,undef,undef,undef,undef,undef,undef,undef,undef,undef,undef,undef,undef,undef,undef,undef,undef, .bool false].getD i undef) [(fun v _ => v = .bool false), (fun v _ => v = .bool false), (fun v _ => v = undef), (fun v _ => v = undef), (fun v _ => v = undef), (fun v _ => v = .bool false), (fun v _ => v = .bool false), (fun v _ => v = undef), (fun v _ => v = undef), (fun v _ => v = undef), (fun v _ => v = .bool false), (fun v _ => v = .bool false), (fun v _ => v = undef), (fun v _ => v = undef), (fun v _ => v = undef), (fun v _ => v = undef), (fun v _ => v = undef), (fun v _ => v = undef), (fun v _ => v = undef), (fun v _ => v = undef), (fun v _ => v = undef), (fun v _ => v = .bool false), (fun v _ => v = .bool false)] (by kernel_rfl) (by kernel_rfl) rfl rfl rfl ?_ ?_ ?_
          · intro g hg v X Y hX hY hv
            simp only [List.mem_cons, List.not_mem_nil, or_false] at hg
            rcases hg with rfl | rfl | rfl | rfl | rfl | rfl | rfl | rfl | rfl | rfl | rfl | rfl | rfl | rfl | rfl | rfl | rfl | rfl | rfl | rfl | rfl | rfl | rfl
            all_goals first
              | exact hv
              | exact hv.kept hY
          · simp only [flowOps, and_true]
            refine ⟨?_,?_,?_,?_,?_,?_,?_,?_,?_,?_,?_,?_,?_,?_,?_,?_,?_,?_,?_,?_,?_,?_,?_⟩
            · intro xs W hW hn
              simp only [flowAct, zwc, zwn]
              go_wp2_with (fail)
              exact ⟨rfl, _, rfl, Below.refl _ _, rfl⟩
            · intro xs W hW hn
              simp [flowNeeds, Region.binds] at hn
              simp only [flowAct, zwc, zwn]
              try simp only [hn]
              go_wp2_with (fail)
              exact ⟨rfl, _, rfl, Below.refl _ _, rfl⟩
            · intro xs W hW hn
              simp [flowNeeds, Region.binds] at hn
              simp only [flowAct, zwc, zwn]
              try simp only [hn]
              go_wp2_with (fail)
              exact ⟨rfl, _, rfl, Below.refl _ _, rfl⟩
            · intro xs W hW hn
              simp [flowNeeds, Region.binds] at hn
              simp only [flowAct, zwc, zwn]
              try simp only [hn]
              go_wp2_with (fail)
              exact ⟨rfl, _, rfl, Below.refl _ _, rfl⟩
            · intro xs W hW hn
              simp [flowNeeds, Region.binds] at hn
              simp only [flowAct, zwc, zwn]
              try simp only [hn]
              go_wp2_with (fail)
              exact ⟨rfl, _, rfl, Below.refl _ _, rfl⟩
            · intro xs W hW hn
              simp [flowNeeds, Region.binds] at hn
              simp only [flowAct, zwc, zwn]
              try simp only [hn]
              go_wp2_with (fail)
              exact ⟨rfl, _, rfl, Below.refl _ _, rfl⟩
            · intro xs W hW hn
              simp [flowNeeds, Region.binds] at hn
              simp only [flowAct, zwc, zwn]
              try simp only [hn]
              go_wp2_with (fail)
              exact ⟨rfl, _, rfl, Below.refl _ _, rfl⟩
            · intro xs W hW hn
              simp [flowNeeds, Region.binds] at hn
              simp only [flowAct, zwc, zwn]
              try simp only [hn]
              go_wp2_with (fail)
              exact ⟨rfl, _, rfl, Below.refl _ _, rfl⟩
            · intro xs W hW hn
              simp [flowNeeds, Region.binds] at hn
              simp only [flowAct, zwc, zwn]
              try simp only [hn]
              go_wp2_with (fail)
              exact ⟨rfl, _, rfl, Below.refl _ _, rfl⟩
            · intro xs W hW hn
              simp [flowNeeds, Region.binds] at hn
              simp only [flowAct, zwc, zwn]
              try simp only [hn]
              go_wp2_with (fail)
              exact ⟨rfl, _, rfl, Below.refl _ _, rfl⟩
            · intro xs W hW hn
              simp [flowNeeds, Region.binds] at hn
              simp only [flowAct, zwc, zwn]
              try simp only [hn]
              go_wp2_with (fail)
              exact ⟨rfl, _, rfl, Below.refl _ _, rfl⟩
            · intro xs W hW hn
              simp [flowNeeds, Region.binds] at hn
              simp only [flowAct, zwc, zwn]
              try simp only [hn]
              go_wp2_with (fail)
              exact ⟨rfl, _, rfl, Below.refl _ _, rfl⟩
            · intro xs W hW hn
              simp [flowNeeds, Region.binds] at hn
              simp only [flowAct, zwc, zwn]
              try simp only [hn]
              go_wp2_with (fail)
              exact ⟨rfl, _, rfl, Below.refl _ _, rfl⟩
            · intro xs W hW hn
              simp [flowNeeds, Region.binds] at hn
              simp only [flowAct, zwc, zwn]
              try simp only [hn]
              go_wp2_with (fail)
              exact ⟨rfl, _, rfl, Below.refl _ _, rfl⟩
            · intro xs W hW hn
              simp [flowNeeds, Region.binds] at hn
              simp only [flowAct, zwc, zwn]
              try simp only [hn]
              go_wp2_with (fail)
              exact ⟨rfl, _, rfl, Below.refl _ _, rfl⟩
            · intro xs W hW hn
              simp [flowNeeds, Region.binds] at hn
              simp only [flowAct, zwc, zwn]
              try simp only [hn]
              go_wp2_with (fail)
              exact ⟨rfl, _, rfl, Below.refl _ _, rfl⟩
            · intro xs W hW hn
              simp [flowNeeds, Region.binds] at hn
              simp only [flowAct, zwc, zwn]
              try simp only [hn]
              go_wp2_with (fail)
              exact ⟨rfl, _, rfl, Below.refl _ _, rfl⟩
            · intro xs W hW hn
              simp [flowNeeds, Region.binds] at hn
              simp only [flowAct, zwc, zwn]
              try simp only [hn]
              go_wp2_with (fail)
              exact ⟨rfl, _, rfl, Below.refl _ _, rfl⟩
            · intro xs W hW hn
              simp [flowNeeds, Region.binds] at hn
              simp only [flowAct, zwc, zwn]
              try simp only [hn]
              go_wp2_with (fail)
              exact ⟨rfl, _, rfl, Below.refl _ _, rfl⟩
            · intro xs W hW hn
              simp [flowNeeds, Region.binds] at hn
              simp only [flowAct, zwc, zwn]
              try simp only [hn]
              go_wp2_with (fail)
              exact ⟨rfl, _, rfl, Below.refl _ _, rfl⟩
            · intro xs W hW hn
              simp [flowNeeds, Region.binds] at hn
              simp only [flowAct, zwc, zwn]
              try simp only [hn]
              go_wp2_with (fail)
              exact ⟨rfl, _, rfl, Below.refl _ _, rfl⟩
            · intro xs W hW hn
              simp [flowNeeds, Region.binds] at hn
              simp only [flowAct, zwc, zwn]
              try simp only [hn]
              go_wp2_with (fail)
              exact ⟨rfl, _, rfl, Below.refl _ _, rfl⟩
            · intro xs W hW hn
              simp [flowNeeds, Region.binds] at hn
              simp only [flowAct, zwc, zwn]
              try simp only [hn]
              go_wp2_with (fail)
              exact ⟨rfl, _, rfl, Below.refl _ _, rfl⟩
          · intro xs W hW hall
            simp only [flowAll, and_true, Nat.zero_add, Nat.reduceAdd] at hall
            obtain ⟨-,-,-,-,-,-,-,-,-,-,-,-,-,-,-,-,-,-,-,-,-,-, e22⟩ := hall
            simp only [flowAct, zwc, zwn]
            simp only [e22]
            go_wp2
            go_ret
            exact ⟨by rw [HRR.out]; rfl, HB1.out.trans (hW.mono HB1.out.size)⟩
    · have e1 : (site == 1) = false := by simpa using h1
      have e2 : (site == 2) = false := by simpa using h2
      have HRR := Lib.hid (show goodHeadS site seq n s a b = false by simp [goodHeadS, e1, e2])
      clear e1 e2
      have e1 : (site != 1) = true := by simpa using h1
      have e2 : (site != 2) = true := by simpa using h2
      clear h1 h2
      go_enter Try.func130, Try.ntmps130
      go_wp2
      go_ret
      exact ⟨by rw [HRR.out]; rfl, HB0.out⟩
set_option maxHeartbeats 12800000 in
theorem goodwrites_c {w : World} {x2 : Option Addr} {m cap2 : Nat} {l : List Wr} (n1 : Nat) (hl : Wrs w x2 m cap2 l) (hx : WShort l) : Calls Try.prog 131 #[.int .i64 (n1 : Int), .slice x2 m cap2] w (Tells (.bool (gwsS n1 l)) w) := by
  have hll := hl.len
  have hle2 := hl.le
  have hmax2 := hl.max
  have H2 := Lib.hid (fun (k : Nat) => @gws_no n1 l k)
  have H3 := Lib.hid (@gws_yes n1 l)
  have H4 := Lib.hid (show ¬ (1 ≤ l.length ∧ l.length ≤ 8) → gwsS n1 l = false from fun h => by
    unfold gwsS
    by_cases h1 : 1 ≤ l.length
    · have h8 : ¬ l.length ≤ 8 := fun h8 => h ⟨h1, h8⟩
      simp [h8]
    · simp [h1])
  have HL := Lib.hid hl
  have HXS := Lib.hid hx
  obtain ⟨R, hR⟩ : ∃ z, gwsS n1 l = z := ⟨_, rfl⟩
  rw [hR, hll] at H3 H4
  rw [hR] at H2 ⊢
  rw [hll] at H2
  clear hR hl hx
  by_cases h1 : m < 1
  · have h1i : (m : Int) < 1 := by omega
    have HRR := Lib.hid (H4.out (by omega))
    clear H2 H3 H4
    go_enter Try.func131, Try.ntmps131
    go_wp2
    go_ret
    exact ⟨by rw [HRR.out]; rfl, Below.refl _ _⟩
  · have h1i : ¬ (m : Int) < 1 := by omega
    by_cases h8 : 8 < m
    · have h8i : (8 : Int) < (m : Int) := by omega
      have HRR := Lib.hid (H4.out (by omega))
      clear H2 H3 H4
      go_enter Try.func131, Try.ntmps131
      go_wp2
      go_ret
      exact ⟨by rw [HRR.out]; rfl, Below.refl _ _⟩
    · have h8i : ¬ (8 : Int) < (m : Int) := by omega
      have H3b := Lib.hid (H3.out (by omega) (by omega))
      clear H4 H3
      go_enter Try.func131, Try.ntmps131
      go_wp2
      clear h1i h8i
      go_loopw [17] (fun i wr => ∃ k : Nat, k ≤ m ∧ i = .int .i64 (k : Int) ∧ (∀ j, j < k → wAt n1 l j = true) ∧ Below w.heap.size w wr) (fun i _ => m - (intOf i).toNat)
      case atStart => exact ⟨0, by omega, rfl, fun j hj => by omega, Below.refl _ _⟩
      case round =>
        obtain ⟨k, hk, rfl, ha, hB⟩ := hrel
        have HA := Lib.hid ha
        have HBr := Lib.hid hB
        clear ha hB
        by_cases hlt : k < m
        · have hki : (k : Int) < (m : Int) := by omega
          have hkc : (k : Int) < (cap2 : Int) := by omega
          obtain ⟨bk, off, rfl, hat⟩ := HL.out.place hlt
          have hxs := HXS.out _ (wr_mem (k := k) (by rw [hll]; exact hlt))
          have hwa : wAt n1 l k = (mayS n1 (l.getD k Wr.zero) && (decide (k = 0) || aheadS (l.getD (k - 1) Wr.zero) (l.getD k Wr.zero))) := rfl
          have HWA := Lib.hid hwa
          have HPL := Lib.hid (fun (j : Nat) (hj : j < m) => HL.out.place hj)
          obtain ⟨y, hy⟩ : ∃ y, l.getD k Wr.zero = y := ⟨_, rfl⟩
          rw [hy] at hat hxs HWA
          obtain ⟨kx, ix, gx, vx⟩ := y
          simp only at hat hxs
          have hwc := fun W => cgoodwrite_c n1 kx ix gx vx hxs.1 hxs.2 W
          obtain ⟨q, hq⟩ : ∃ z, mayS n1 ⟨kx, ix, gx, vx⟩ = z := ⟨_, rfl⟩
          rw [hq] at HWA
          simp only [hq] at hwc
          have HWC := Lib.hid hwc
          obtain ⟨p0, p1, p2, p3⟩ := hat wr HBr.out
          have HY := Lib.hid hy
          clear hat hxs hwa hwc hq hy
          go_upto_region 6 with (fail)
          clear p0 p1 p2 p3
          have hb6 := alloc_below wr (.cells #[.string (text kx), .int .i64 ix, .bool gx, .string (text vx)] 94)
          have hp6 := heap_alloc_new wr (.cells #[.string (text kx), .int .i64 ix, .bool gx, .string (text vx)] 94)
          have HB2 := Lib.hid (HBr.out.trans (hb6.mono HBr.out.size))
          obtain ⟨B, hB⟩ : ∃ z, wr.heap.size = z := ⟨_, rfl⟩
          rw [hB] at hp6 ⊢
          clear hB hb6 HBr
          generalize wr.alloc (.cells #[.string (text kx), .int .i64 ix, .bool gx, .string (text vx)] 94) = W6 at *
          have HPB := Lib.hid (fun W (h : Below W6.heap.size W6 W) => wr_cells (heap_below hp6 h))
          clear hp6
          cases q with
          | false =>
            have HRR := Lib.hid (H2.out k hlt (by rw [HWA.out]; rfl))
            clear HWA
            refine wp_region_flow [none,none,none,none,none,none,none,none,none,none,none,none,none,none,none,none,none,none,none,none,none,none, some 0, some 1, some 2, some 3, some 4, some 5, some 6, some 7, some 8, some 9, some 10, some 11, some 12, some 13, some 14, some 15, some 16, some 17, none] (fun i => [u22, u23, u24, u25, u26, u27, u28, u29, u30, u31, u32, u33, u34, u35, u36, u37, u38, u39].getD i undef) [(fun v _ => v = .int .i64 (n1 : Int)), (fun v _ => v = .agg #[.string (text kx), .int .i64 ix, .bool gx, .string (text vx)]), (fun v _ => v = .bool false), (fun v _ => v = .bool true), (fun v _ => v = .bool true), (fun v _ => v = undef), (fun v _ => v = undef), (fun v _ => v = undef), (fun v _ => v = undef), (fun v _ => v = undef), (fun v _ => v = undef), (fun v _ => v = undef), (fun v _ => v = undef), (fun v _ => v = undef), (fun v _ => v = undef), (fun v _ => v = undef), (fun v _ => v = undef), (fun v _ => v = .bool true)] (by kernel_rfl) (by kernel_rfl) rfl rfl rfl ?_ ?_ ?_
            · intro g hg v X Y hX hY hv
              simp only [List.mem_cons, List.not_mem_nil, or_false] at hg
              rcases hg with rfl | rfl | rfl | rfl | rfl | rfl | rfl | rfl | rfl | rfl | rfl | rfl | rfl | rfl | rfl | rfl | rfl | rfl
              all_goals first
                | exact hv
                | exact hv.kept hY
            · simp only [flowOps, and_true]
              refine ⟨?_,?_,?_,?_,?_,?_,?_,?_,?_,?_,?_,?_,?_,?_,?_,?_,?_,?_⟩
              · intro xs W hW hn
                simp only [flowAct, zwc, zwn]
                go_wp2_with (fail)
                exact ⟨rfl, _, rfl, Below.refl _ _, rfl⟩
              · intro xs W hW hn
                obtain ⟨p0, p1, p2, p3⟩ := HPB.out W hW
                simp only [flowAct, zwc, zwn]
                go_wp2_with (fail)
                exact ⟨rfl, _, rfl, Below.refl _ _, rfl⟩
              · intro xs W hW hn
                simp [flowNeeds, Region.binds] at hn
                simp only [flowAct, zwc, zwn]
                try simp only [hn]
                go_wp2_with (go_at_call 141; (with_reducible refine (HWC.out _).mono ?_); rintro e9 w9 ⟨rfl, hb9⟩)
                exact ⟨rfl, _, rfl, hb9, rfl⟩
              · intro xs W hW hn
                simp [flowNeeds, Region.binds] at hn
                simp only [flowAct, zwc, zwn]
                try simp only [hn]
                go_wp2_with (fail)
                exact ⟨rfl, _, rfl, Below.refl _ _, rfl⟩
              · intro xs W hW hn
                simp [flowNeeds, Region.binds] at hn
                simp only [flowAct, zwc, zwn]
                try simp only [hn]
                go_wp2_with (fail)
                exact ⟨rfl, _, rfl, Below.refl _ _, rfl⟩
              · intro xs W hW hn
                simp [flowNeeds, Region.binds] at hn
                simp only [flowAct, zwc, zwn]
                try simp only [hn]
                go_wp2_with (fail)
                exact ⟨rfl, _, rfl, Below.refl _ _, rfl⟩
              · intro xs W hW hn
                simp [flowNeeds, Region.binds] at hn
                simp only [flowAct, zwc, zwn]
                try simp only [hn]
                go_wp2_with (fail)
                exact ⟨rfl, _, rfl, Below.refl _ _, rfl⟩
              · intro xs W hW hn
                simp [flowNeeds, Region.binds] at hn
                simp only [flowAct, zwc, zwn]
                try simp only [hn]
                go_wp2_with (fail)
                exact ⟨rfl, _, rfl, Below.refl _ _, rfl⟩
              · intro xs W hW hn
                simp [flowNeeds, Region.binds] at hn
                simp only [flowAct, zwc, zwn]
                try simp only [hn]
                go_wp2_with (fail)
                exact ⟨rfl, _, rfl, Below.refl _ _, rfl⟩
              · intro xs W hW hn
                simp [flowNeeds, Region.binds] at hn
                simp only [flowAct, zwc, zwn]
                try simp only [hn]
                go_wp2_with (fail)
                exact ⟨rfl, _, rfl, Below.refl _ _, rfl⟩
              · intro xs W hW hn
                simp [flowNeeds, Region.binds] at hn
                simp only [flowAct, zwc, zwn]
                try simp only [hn]
                go_wp2_with (fail)
                exact ⟨rfl, _, rfl, Below.refl _ _, rfl⟩
              · intro xs W hW hn
                simp [flowNeeds, Region.binds] at hn
                simp only [flowAct, zwc, zwn]
                try simp only [hn]
                go_wp2_with (fail)
                exact ⟨rfl, _, rfl, Below.refl _ _, rfl⟩
              · intro xs W hW hn
                simp [flowNeeds, Region.binds] at hn
                simp only [flowAct, zwc, zwn]
                try simp only [hn]
                go_wp2_with (fail)
                exact ⟨rfl, _, rfl, Below.refl _ _, rfl⟩
              · intro xs W hW hn
                simp [flowNeeds, Region.binds] at hn
                simp only [flowAct, zwc, zwn]
                try simp only [hn]
                go_wp2_with (fail)
                exact ⟨rfl, _, rfl, Below.refl _ _, rfl⟩
              · intro xs W hW hn
                simp [flowNeeds, Region.binds] at hn
                simp only [flowAct, zwc, zwn]
                try simp only [hn]
                go_wp2_with (fail)
                exact ⟨rfl, _, rfl, Below.refl _ _, rfl⟩
              · intro xs W hW hn
                simp [flowNeeds, Region.binds] at hn
                simp only [flowAct, zwc, zwn]
                try simp only [hn]
                go_wp2_with (fail)
                exact ⟨rfl, _, rfl, Below.refl _ _, rfl⟩
              · intro xs W hW hn
                simp [flowNeeds, Region.binds] at hn
                simp only [flowAct, zwc, zwn]
                try simp only [hn]
                go_wp2_with (fail)
                exact ⟨rfl, _, rfl, Below.refl _ _, rfl⟩
              · intro xs W hW hn
                simp [flowNeeds, Region.binds] at hn
                simp only [flowAct, zwc, zwn]
                try simp only [hn]
                go_wp2_with (fail)
                exact ⟨rfl, _, rfl, Below.refl _ _, rfl⟩
            · intro xs W hW hall
              simp only [flowAll, and_true, Nat.zero_add, Nat.reduceAdd] at hall
              obtain ⟨-,-,-,-,-,-,-,-,-,-,-,-,-,-,-,-,-, e17⟩ := hall
              simp only [flowAct, zwc, zwn]
              simp only [e17]
              go_wp2
              go_ret
              exact ⟨by rw [HRR.out]; rfl, HB2.out.trans (hW.mono HB2.out.size)⟩
          | true =>
            by_cases hk0 : k = 0
            · subst hk0
              have HAN := Lib.hid (show ∀ j, j < 0 + 1 → wAt n1 l j = true from fun j hj => by
                obtain rfl : j = 0 := by omega
                rw [HWA.out]; rfl)
              clear HWA
              refine wp_region_flow [none,none,none,none,none,none,none,none,none,none,none,none,none,none,none,none,none,none,none,none,none,none, some 0, some 1, some 2, some 3, some 4, some 5, some 6, some 7, some 8, some 9, some 10, some 11, some 12, some 13, some 14, some 15, some 16, some 17, none] (fun i => [u22, u23, u24, u25, u26, u27, u28, u29, u30, u31, u32, u33, u34, u35, u36, u37, u38, u39].getD i undef) [(fun v _ => v = .int .i64 (n1 : Int)), (fun v _ => v = .agg #[.string (text kx), .int .i64 ix, .bool gx, .string (text vx)]), (fun v _ => v = .bool true), (fun v _ => v = .bool false), (fun v _ => v = .bool false), (fun v _ => v = .int .i64 0), (fun v _ => v = .bool false), (fun v _ => v = .bool false), (fun v _ => v = undef), (fun v _ => v = undef), (fun v _ => v = undef), (fun v _ => v = undef), (fun v _ => v = undef), (fun v _ => v = undef), (fun v _ => v = undef), (fun v _ => v = undef), (fun v _ => v = .bool false), (fun v _ => v = .bool false)] (by kernel_rfl) (by kernel_rfl) rfl rfl rfl ?_ ?_ ?_
              · intro g hg v X Y hX hY hv
                simp only [List.mem_cons, List.not_mem_nil, or_false] at hg
                rcases hg with rfl | rfl | rfl | rfl | rfl | rfl | rfl | rfl | rfl | rfl | rfl | rfl | rfl | rfl | rfl | rfl | rfl | rfl
                all_goals first
                  | exact hv
                  | exact hv.kept hY
              · simp only [flowOps, and_true]
                refine ⟨?_,?_,?_,?_,?_,?_,?_,?_,?_,?_,?_,?_,?_,?_,?_,?_,?_,?_⟩
                · intro xs W hW hn
                  simp only [flowAct, zwc, zwn]
                  go_wp2_with (fail)
                  exact ⟨rfl, _, rfl, Below.refl _ _, rfl⟩
                · intro xs W hW hn
                  obtain ⟨p0, p1, p2, p3⟩ := HPB.out W hW
                  simp only [flowAct, zwc, zwn]
                  go_wp2_with (fail)
                  exact ⟨rfl, _, rfl, Below.refl _ _, rfl⟩
                · intro xs W hW hn
                  simp [flowNeeds, Region.binds] at hn
                  simp only [flowAct, zwc, zwn]
                  try simp only [hn]
                  go_wp2_with (go_at_call 141; (with_reducible refine (HWC.out _).mono ?_); rintro e9 w9 ⟨rfl, hb9⟩)
                  exact ⟨rfl, _, rfl, hb9, rfl⟩
                · intro xs W hW hn
                  simp [flowNeeds, Region.binds] at hn
                  simp only [flowAct, zwc, zwn]
                  try simp only [hn]
                  go_wp2_with (fail)
                  exact ⟨rfl, _, rfl, Below.refl _ _, rfl⟩
                · intro xs W hW hn
                  simp [flowNeeds, Region.binds] at hn
                  simp only [flowAct, zwc, zwn]
                  try simp only [hn]
                  go_wp2_with (fail)
                  exact ⟨rfl, _, rfl, Below.refl _ _, rfl⟩
                · intro xs W hW hn
                  simp [flowNeeds, Region.binds] at hn
                  simp only [flowAct, zwc, zwn]
                  try simp only [hn]
                  go_wp2_with (fail)
                  exact ⟨rfl, _, rfl, Below.refl _ _, rfl⟩
                · intro xs W hW hn
                  simp [flowNeeds, Region.binds] at hn
                  simp only [flowAct, zwc, zwn]
                  try simp only [hn]
                  go_wp2_with (fail)
                  exact ⟨rfl, _, rfl, Below.refl _ _, rfl⟩
                · intro xs W hW hn
                  simp [flowNeeds, Region.binds] at hn
                  simp only [flowAct, zwc, zwn]
                  try simp only [hn]
                  go_wp2_with (fail)
                  exact ⟨rfl, _, rfl, Below.refl _ _, rfl⟩
                · intro xs W hW hn
                  simp [flowNeeds, Region.binds] at hn
                  simp only [flowAct, zwc, zwn]
                  try simp only [hn]
                  go_wp2_with (fail)
                  exact ⟨rfl, _, rfl, Below.refl _ _, rfl⟩
                · intro xs W hW hn
                  simp [flowNeeds, Region.binds] at hn
                  simp only [flowAct, zwc, zwn]
                  try simp only [hn]
                  go_wp2_with (fail)
                  exact ⟨rfl, _, rfl, Below.refl _ _, rfl⟩
                · intro xs W hW hn
                  simp [flowNeeds, Region.binds] at hn
                  simp only [flowAct, zwc, zwn]
                  try simp only [hn]
                  go_wp2_with (fail)
                  exact ⟨rfl, _, rfl, Below.refl _ _, rfl⟩
                · intro xs W hW hn
                  simp [flowNeeds, Region.binds] at hn
                  simp only [flowAct, zwc, zwn]
                  try simp only [hn]
                  go_wp2_with (fail)
                  exact ⟨rfl, _, rfl, Below.refl _ _, rfl⟩
                · intro xs W hW hn
                  simp [flowNeeds, Region.binds] at hn
                  simp only [flowAct, zwc, zwn]
                  try simp only [hn]
                  go_wp2_with (fail)
                  exact ⟨rfl, _, rfl, Below.refl _ _, rfl⟩
                · intro xs W hW hn
                  simp [flowNeeds, Region.binds] at hn
                  simp only [flowAct, zwc, zwn]
                  try simp only [hn]
                  go_wp2_with (fail)
                  exact ⟨rfl, _, rfl, Below.refl _ _, rfl⟩
                · intro xs W hW hn
                  simp [flowNeeds, Region.binds] at hn
                  simp only [flowAct, zwc, zwn]
                  try simp only [hn]
                  go_wp2_with (fail)
                  exact ⟨rfl, _, rfl, Below.refl _ _, rfl⟩
                · intro xs W hW hn
                  simp [flowNeeds, Region.binds] at hn
                  simp only [flowAct, zwc, zwn]
                  try simp only [hn]
                  go_wp2_with (fail)
                  exact ⟨rfl, _, rfl, Below.refl _ _, rfl⟩
                · intro xs W hW hn
                  simp [flowNeeds, Region.binds] at hn
                  simp only [flowAct, zwc, zwn]
                  try simp only [hn]
                  go_wp2_with (fail)
                  exact ⟨rfl, _, rfl, Below.refl _ _, rfl⟩
                · intro xs W hW hn
                  simp [flowNeeds, Region.binds] at hn
                  simp only [flowAct, zwc, zwn]
                  try simp only [hn]
                  go_wp2_with (fail)
                  exact ⟨rfl, _, rfl, Below.refl _ _, rfl⟩
              · intro xs W hW hall
                simp only [flowAll, and_true, Nat.zero_add, Nat.reduceAdd] at hall
                obtain ⟨-,-,-,-,-,-,-,-,-,-,-,-,-,-,-,-,-, e17⟩ := hall
                simp only [flowAct, zwc, zwn]
                simp only [e17]
                go_wp2
                go_roundw
                case rel => exact ⟨0 + 1, by omega, by go_num, HAN.out, HB2.out.trans (hW.mono HB2.out.size)⟩
                case measure => simp [intOf]; omega
            · obtain ⟨j, rfl⟩ : ∃ j, k = j + 1 := ⟨k - 1, by omega⟩
              clear hk0
              obtain ⟨bk', off', eab, hat'⟩ := HPL.out j (by omega)
              injection eab with eab
              injection eab with e1 e2 e3
              subst e1 e2
              clear e3
              have hord := ord_geq (l.getD j Wr.zero) ⟨kx, ix, gx, vx⟩
              have HWA2 := Lib.hid (show wAt n1 l (j + 1) = aheadS (l.getD j Wr.zero) ⟨kx, ix, gx, vx⟩ by
                rw [HWA.out]
                simp)
              clear HWA
              obtain ⟨z, hz⟩ : ∃ z, l.getD j Wr.zero = z := ⟨_, rfl⟩
              rw [hz] at hat' hord HWA2
              obtain ⟨ky, iy, gy, vy⟩ := z
              simp only at hat'
              have HQW := Lib.hid (fun W (h : Below W6.heap.size W6 W) => hat' W (HB2.out.trans (h.mono HB2.out.size)))
              have hah := fun W => order_c ky iy gy vy kx ix gx vx W
              obtain ⟨AH, hAH⟩ : ∃ z, aheadS ⟨ky, iy, gy, vy⟩ ⟨kx, ix, gx, vx⟩ = z := ⟨_, rfl⟩
              obtain ⟨OR, hOR⟩ : ∃ z, ordS ⟨ky, iy, gy, vy⟩ ⟨kx, ix, gx, vx⟩ = z := ⟨_, rfl⟩
              rw [hAH] at hord HWA2
              rw [hOR] at hord
              simp only [hOR] at hah
              have HAH := Lib.hid hah
              have HGE := Lib.hid hord
              have hj0 : (0 : Int) < ((j + 1 : Nat) : Int) := by omega
              have hjn : (j : Int) < (m : Int) := by omega
              have hjc : (j : Int) < (cap2 : Int) := by omega
              clear hat' hz hah hAH hOR hord
              cases AH with
              | true =>
                have HAN := Lib.hid (show ∀ i, i < j + 1 + 1 → wAt n1 l i = true from fun i hi => by
                  by_cases h9 : i < j + 1
                  · exact HA.out i h9
                  · obtain rfl : i = j + 1 := by omega
                    exact HWA2.out)
                clear HWA2 HA
                refine wp_region_flow [none,none,none,none,none,none,none,none,none,none,none,none,none,none,none,none,none,none,none,none,none,none, some 0, some 1, some 2, some 3, some 4, some 5, some 6, some 7, some 8, some 9, some 10, some 11, some 12, some 13, some 14, some 15, some 16, some 17, none] (fun i => [u22, u23, u24, u25, u26, u27, u28, u29, u30, u31, u32, u33, u34, u35, u36, u37, u38, u39].getD i undef) [(fun v _ => v = .int .i64 (n1 : Int)), (fun v _ => v = .agg #[.string (text kx), .int .i64 ix, .bool gx, .string (text vx)]), (fun v _ => v = .bool true), (fun v _ => v = .bool false), (fun v _ => v = .bool false), (fun v _ => v = .int .i64 ((j + 1 : Nat) : Int)), (fun v _ => v = .bool true), (fun v _ => v = .bool true), (fun v _ => v = .slice (some ⟨bk, off, none⟩) m cap2), (fun v _ => v = .int .i64 ((j + 1 : Nat) : Int)), (fun v _ => v = .int .i64 (j : Int)), (fun v _ => v = .pointer (some ⟨bk, off + j * 4, none⟩)), (fun v _ => v = .agg #[.string (text ky), .int .i64 iy, .bool gy, .string (text vy)]), (fun v _ => v = .agg #[.string (text kx), .int .i64 ix, .bool gx, .string (text vx)]), (fun v _ => v = .int .i64 OR), (fun v _ => v = .bool (!true)), (fun v _ => v = .bool (!true)), (fun v _ => v = .bool (!true))] (by kernel_rfl) (by kernel_rfl) rfl rfl rfl ?_ ?_ ?_
                · intro g hg v X Y hX hY hv
                  simp only [List.mem_cons, List.not_mem_nil, or_false] at hg
                  rcases hg with rfl | rfl | rfl | rfl | rfl | rfl | rfl | rfl | rfl | rfl | rfl | rfl | rfl | rfl | rfl | rfl | rfl | rfl
                  all_goals first
                    | exact hv
                    | exact hv.kept hY
                · simp only [flowOps, and_true]
                  refine ⟨?_,?_,?_,?_,?_,?_,?_,?_,?_,?_,?_,?_,?_,?_,?_,?_,?_,?_⟩
                  · intro xs W hW hn
                    simp only [flowAct, zwc, zwn]
                    go_wp2_with (fail)
                    exact ⟨rfl, _, rfl, Below.refl _ _, rfl⟩
                  · intro xs W hW hn
                    obtain ⟨p0, p1, p2, p3⟩ := HPB.out W hW
                    simp only [flowAct, zwc, zwn]
                    go_wp2_with (fail)
                    exact ⟨rfl, _, rfl, Below.refl _ _, rfl⟩
                  · intro xs W hW hn
                    simp [flowNeeds, Region.binds] at hn
                    simp only [flowAct, zwc, zwn]
                    try simp only [hn]
                    go_wp2_with (go_at_call 141; (with_reducible refine (HWC.out _).mono ?_); rintro e9 w9 ⟨rfl, hb9⟩)
                    exact ⟨rfl, _, rfl, hb9, rfl⟩
                  · intro xs W hW hn
                    simp [flowNeeds, Region.binds] at hn
                    simp only [flowAct, zwc, zwn]
                    try simp only [hn]
                    go_wp2_with (fail)
                    exact ⟨rfl, _, rfl, Below.refl _ _, rfl⟩
                  · intro xs W hW hn
                    simp [flowNeeds, Region.binds] at hn
                    simp only [flowAct, zwc, zwn]
                    try simp only [hn]
                    go_wp2_with (fail)
                    exact ⟨rfl, _, rfl, Below.refl _ _, rfl⟩
                  · intro xs W hW hn
                    simp [flowNeeds, Region.binds] at hn
                    simp only [flowAct, zwc, zwn]
                    try simp only [hn]
                    go_wp2_with (fail)
                    exact ⟨rfl, _, rfl, Below.refl _ _, rfl⟩
                  · intro xs W hW hn
                    simp [flowNeeds, Region.binds] at hn
                    simp only [flowAct, zwc, zwn]
                    try simp only [hn]
                    go_wp2_with (fail)
                    exact ⟨rfl, _, rfl, Below.refl _ _, by first | rfl | go_num | (simp; done)⟩
                  · intro xs W hW hn
                    simp [flowNeeds, Region.binds] at hn
                    simp only [flowAct, zwc, zwn]
                    try simp only [hn]
                    go_wp2_with (fail)
                    exact ⟨rfl, _, rfl, Below.refl _ _, rfl⟩
                  · intro xs W hW hn
                    simp [flowNeeds, Region.binds] at hn
                    simp only [flowAct, zwc, zwn]
                    try simp only [hn]
                    go_wp2_with (fail)
                    exact ⟨rfl, _, rfl, Below.refl _ _, rfl⟩
                  · intro xs W hW hn
                    simp [flowNeeds, Region.binds] at hn
                    simp only [flowAct, zwc, zwn]
                    try simp only [hn]
                    go_wp2_with (fail)
                    exact ⟨rfl, _, rfl, Below.refl _ _, rfl⟩
                  · intro xs W hW hn
                    simp [flowNeeds, Region.binds] at hn
                    simp only [flowAct, zwc, zwn]
                    try simp only [hn]
                    go_wp2_with (fail)
                    exact ⟨rfl, _, rfl, Below.refl _ _, by first | rfl | go_num | (simp; done)⟩
                  · intro xs W hW hn
                    simp [flowNeeds, Region.binds] at hn
                    simp only [flowAct, zwc, zwn]
                    try simp only [hn]
                    go_wp2_with (fail)
                    exact ⟨rfl, _, rfl, Below.refl _ _, rfl⟩
                  · intro xs W hW hn
                    obtain ⟨y0, y1, y2, y3⟩ := HQW.out W hW
                    simp [flowNeeds, Region.binds] at hn
                    simp only [flowAct, zwc, zwn]
                    try simp only [hn]
                    go_wp2_with (fail)
                    exact ⟨rfl, _, rfl, Below.refl _ _, rfl⟩
                  · intro xs W hW hn
                    obtain ⟨p0, p1, p2, p3⟩ := HPB.out W hW
                    simp [flowNeeds, Region.binds] at hn
                    simp only [flowAct, zwc, zwn]
                    try simp only [hn]
                    go_wp2_with (fail)
                    exact ⟨rfl, _, rfl, Below.refl _ _, rfl⟩
                  · intro xs W hW hn
                    simp [flowNeeds, Region.binds] at hn
                    simp only [flowAct, zwc, zwn]
                    try simp only [hn]
                    go_wp2_with (go_at_call 142; (with_reducible refine (HAH.out _).mono ?_); rintro e9 w9 ⟨rfl, hb9⟩)
                    exact ⟨rfl, _, rfl, hb9, rfl⟩
                  · intro xs W hW hn
                    simp [flowNeeds, Region.binds] at hn
                    simp only [flowAct, zwc, zwn]
                    try simp only [hn]
                    go_wp2_with (fail)
                    exact ⟨rfl, _, rfl, Below.refl _ _, by first | exact congrArg Value.bool HGE.out | (have := HGE.out; simp at this ⊢; exact this)⟩
                  · intro xs W hW hn
                    simp [flowNeeds, Region.binds] at hn
                    simp only [flowAct, zwc, zwn]
                    try simp only [hn]
                    go_wp2_with (fail)
                    exact ⟨rfl, _, rfl, Below.refl _ _, rfl⟩
                  · intro xs W hW hn
                    simp [flowNeeds, Region.binds] at hn
                    simp only [flowAct, zwc, zwn]
                    try simp only [hn]
                    go_wp2_with (fail)
                    exact ⟨rfl, _, rfl, Below.refl _ _, rfl⟩
                · intro xs W hW hall
                  simp only [flowAll, and_true, Nat.zero_add, Nat.reduceAdd] at hall
                  obtain ⟨-,-,-,-,-,-,-,-,-,-,-,-,-,-,-,-,-, e17⟩ := hall
                  simp only [flowAct, zwc, zwn]
                  simp only [e17]
                  go_wp2
                  go_roundw
                  case rel => exact ⟨(j + 1) + 1, by omega, by go_num, HAN.out, HB2.out.trans (hW.mono HB2.out.size)⟩
                  case measure => simp [intOf]; omega
              | false =>
                have HRR := Lib.hid (H2.out (j + 1) hlt HWA2.out)
                clear HWA2 HA
                refine wp_region_flow [none,none,none,none,none,none,none,none,none,none,none,none,none,none,none,none,none,none,none,none,none,none, some 0, some 1, some 2, some 3, some 4, some 5, some 6, some 7, some 8, some 9, some 10, some 11, some 12, some 13, some 14, some 15, some 16, some 17, none] (fun i => [u22, u23, u24, u25, u26, u27, u28, u29, u30, u31, u32, u33, u34, u35, u36, u37, u38, u39].getD i undef) [(fun v _ => v = .int .i64 (n1 : Int)), (fun v _ => v = .agg #[.string (text kx), .int .i64 ix, .bool gx, .string (text vx)]), (fun v _ => v = .bool true), (fun v _ => v = .bool false), (fun v _ => v = .bool false), (fun v _ => v = .int .i64 ((j + 1 : Nat) : Int)), (fun v _ => v = .bool true), (fun v _ => v = .bool true), (fun v _ => v = .slice (some ⟨bk, off, none⟩) m cap2), (fun v _ => v = .int .i64 ((j + 1 : Nat) : Int)), (fun v _ => v = .int .i64 (j : Int)), (fun v _ => v = .pointer (some ⟨bk, off + j * 4, none⟩)), (fun v _ => v = .agg #[.string (text ky), .int .i64 iy, .bool gy, .string (text vy)]), (fun v _ => v = .agg #[.string (text kx), .int .i64 ix, .bool gx, .string (text vx)]), (fun v _ => v = .int .i64 OR), (fun v _ => v = .bool (!false)), (fun v _ => v = .bool (!false)), (fun v _ => v = .bool (!false))] (by kernel_rfl) (by kernel_rfl) rfl rfl rfl ?_ ?_ ?_
                · intro g hg v X Y hX hY hv
                  simp only [List.mem_cons, List.not_mem_nil, or_false] at hg
                  rcases hg with rfl | rfl | rfl | rfl | rfl | rfl | rfl | rfl | rfl | rfl | rfl | rfl | rfl | rfl | rfl | rfl | rfl | rfl
                  all_goals first
                    | exact hv
                    | exact hv.kept hY
                · simp only [flowOps, and_true]
                  refine ⟨?_,?_,?_,?_,?_,?_,?_,?_,?_,?_,?_,?_,?_,?_,?_,?_,?_,?_⟩
                  · intro xs W hW hn
                    simp only [flowAct, zwc, zwn]
                    go_wp2_with (fail)
                    exact ⟨rfl, _, rfl, Below.refl _ _, rfl⟩
                  · intro xs W hW hn
                    obtain ⟨p0, p1, p2, p3⟩ := HPB.out W hW
                    simp only [flowAct, zwc, zwn]
                    go_wp2_with (fail)
                    exact ⟨rfl, _, rfl, Below.refl _ _, rfl⟩
                  · intro xs W hW hn
                    simp [flowNeeds, Region.binds] at hn
                    simp only [flowAct, zwc, zwn]
                    try simp only [hn]
                    go_wp2_with (go_at_call 141; (with_reducible refine (HWC.out _).mono ?_); rintro e9 w9 ⟨rfl, hb9⟩)
                    exact ⟨rfl, _, rfl, hb9, rfl⟩
                  · intro xs W hW hn
                    simp [flowNeeds, Region.binds] at hn
                    simp only [flowAct, zwc, zwn]
                    try simp only [hn]
                    go_wp2_with (fail)
                    exact ⟨rfl, _, rfl, Below.refl _ _, rfl⟩
                  · intro xs W hW hn
                    simp [flowNeeds, Region.binds] at hn
                    simp only [flowAct, zwc, zwn]
                    try simp only [hn]
                    go_wp2_with (fail)
                    exact ⟨rfl, _, rfl, Below.refl _ _, rfl⟩
                  · intro xs W hW hn
                    simp [flowNeeds, Region.binds] at hn
                    simp only [flowAct, zwc, zwn]
                    try simp only [hn]
                    go_wp2_with (fail)
                    exact ⟨rfl, _, rfl, Below.refl _ _, rfl⟩
                  · intro xs W hW hn
                    simp [flowNeeds, Region.binds] at hn
                    simp only [flowAct, zwc, zwn]
                    try simp only [hn]
                    go_wp2_with (fail)
                    exact ⟨rfl, _, rfl, Below.refl _ _, by first | rfl | go_num | (simp; done)⟩
                  · intro xs W hW hn
                    simp [flowNeeds, Region.binds] at hn
                    simp only [flowAct, zwc, zwn]
                    try simp only [hn]
                    go_wp2_with (fail)
                    exact ⟨rfl, _, rfl, Below.refl _ _, rfl⟩
                  · intro xs W hW hn
                    simp [flowNeeds, Region.binds] at hn
                    simp only [flowAct, zwc, zwn]
                    try simp only [hn]
                    go_wp2_with (fail)
                    exact ⟨rfl, _, rfl, Below.refl _ _, rfl⟩
                  · intro xs W hW hn
                    simp [flowNeeds, Region.binds] at hn
                    simp only [flowAct, zwc, zwn]
                    try simp only [hn]
                    go_wp2_with (fail)
                    exact ⟨rfl, _, rfl, Below.refl _ _, rfl⟩
                  · intro xs W hW hn
                    simp [flowNeeds, Region.binds] at hn
                    simp only [flowAct, zwc, zwn]
                    try simp only [hn]
                    go_wp2_with (fail)
                    exact ⟨rfl, _, rfl, Below.refl _ _, by first | rfl | go_num | (simp; done)⟩
                  · intro xs W hW hn
                    simp [flowNeeds, Region.binds] at hn
                    simp only [flowAct, zwc, zwn]
                    try simp only [hn]
                    go_wp2_with (fail)
                    exact ⟨rfl, _, rfl, Below.refl _ _, rfl⟩
                  · intro xs W hW hn
                    obtain ⟨y0, y1, y2, y3⟩ := HQW.out W hW
                    simp [flowNeeds, Region.binds] at hn
                    simp only [flowAct, zwc, zwn]
                    try simp only [hn]
                    go_wp2_with (fail)
                    exact ⟨rfl, _, rfl, Below.refl _ _, rfl⟩
                  · intro xs W hW hn
                    obtain ⟨p0, p1, p2, p3⟩ := HPB.out W hW
                    simp [flowNeeds, Region.binds] at hn
                    simp only [flowAct, zwc, zwn]
                    try simp only [hn]
                    go_wp2_with (fail)
                    exact ⟨rfl, _, rfl, Below.refl _ _, rfl⟩
                  · intro xs W hW hn
                    simp [flowNeeds, Region.binds] at hn
                    simp only [flowAct, zwc, zwn]
                    try simp only [hn]
                    go_wp2_with (go_at_call 142; (with_reducible refine (HAH.out _).mono ?_); rintro e9 w9 ⟨rfl, hb9⟩)
                    exact ⟨rfl, _, rfl, hb9, rfl⟩
                  · intro xs W hW hn
                    simp [flowNeeds, Region.binds] at hn
                    simp only [flowAct, zwc, zwn]
                    try simp only [hn]
                    go_wp2_with (fail)
                    exact ⟨rfl, _, rfl, Below.refl _ _, by first | exact congrArg Value.bool HGE.out | (have := HGE.out; simp at this ⊢; exact this)⟩
                  · intro xs W hW hn
                    simp [flowNeeds, Region.binds] at hn
                    simp only [flowAct, zwc, zwn]
                    try simp only [hn]
                    go_wp2_with (fail)
                    exact ⟨rfl, _, rfl, Below.refl _ _, rfl⟩
                  · intro xs W hW hn
                    simp [flowNeeds, Region.binds] at hn
                    simp only [flowAct, zwc, zwn]
                    try simp only [hn]
                    go_wp2_with (fail)
                    exact ⟨rfl, _, rfl, Below.refl _ _, rfl⟩
                · intro xs W hW hall
                  simp only [flowAll, and_true, Nat.zero_add, Nat.reduceAdd] at hall
                  obtain ⟨-,-,-,-,-,-,-,-,-,-,-,-,-,-,-,-,-, e17⟩ := hall
                  simp only [flowAct, zwc, zwn]
                  simp only [e17]
                  go_wp2
                  go_ret
                  exact ⟨by rw [HRR.out]; rfl, HB2.out.trans (hW.mono HB2.out.size)⟩
        · obtain rfl : m = k := by omega
          have HRR := Lib.hid (H3b.out HA.out)
          clear H2 H3b
          go_wp2
          go_ret
          exact ⟨by rw [HRR.out]; rfl, HBr.out⟩
set_option maxHeartbeats 3200000 in
theorem chgood_c {w : World} {x x2 : Option Addr} {n1 cap m cap2 : Nat} {gs : List Grp} {l : List Wr} (hg : Grs w x n1 cap gs) (hs : ∀ g ∈ gs, g.1.length ≤ 9223372036854775807) (hl : Wrs w x2 m cap2 l) (hx : WShort l) (site seq n s a b : Int) :
    Calls Try.prog 118 #[.slice x n1 cap, .agg #[.int .i64 site, .int .i64 seq, .int .i64 n, .int .i64 s, .int .i64 a, .int .i64 b, .slice x2 m cap2]] w (Tells (.int .i64 (chgoodS gs site seq n s a b l)) w) := by
  have hgl := hg.len
  have HPG := Lib.hid (fun W (h : Below w.heap.size w W) => pgood_c (hg.below h) hs)
  have HGH := Lib.hid (fun W => goodhead_c site seq n s a b x2 m cap2 W)
  have HGW := Lib.hid (fun W (h : Below w.heap.size w W) => goodwrites_c n1 (hl.below h) hx)
  have HV := Lib.hid (chgood_eq gs site seq n s a b l)
  rw [hgl] at HV
  obtain ⟨R, hR⟩ : ∃ z, chgoodS gs site seq n s a b l = z := ⟨_, rfl⟩
  obtain ⟨P0, hP⟩ : ∃ z, pgoodS gs = z := ⟨_, rfl⟩
  obtain ⟨GH, hGH⟩ : ∃ z, goodHeadS site seq n s a b = z := ⟨_, rfl⟩
  obtain ⟨GW, hGW⟩ : ∃ z, gwsS n1 l = z := ⟨_, rfl⟩
  rw [hR, hP, hGH, hGW] at HV
  simp only [hP] at HPG
  simp only [hGH] at HGH
  simp only [hGW] at HGW
  rw [hR]
  have HB1 := Lib.hid (alloc_below w (.cells #[.int .i64 site, .int .i64 seq, .int .i64 n, .int .i64 s, .int .i64 a, .int .i64 b, .slice x2 m cap2] 91))
  have hr := heap_alloc_new w (.cells #[.int .i64 site, .int .i64 seq, .int .i64 n, .int .i64 s, .int .i64 a, .int .i64 b, .slice x2 m cap2] 91)
  have HC0 := Lib.hid (fun W (h : Below (w.alloc (.cells #[.int .i64 site, .int .i64 seq, .int .i64 n, .int .i64 s, .int .i64 a, .int .i64 b, .slice x2 m cap2] 91)).heap.size (w.alloc (.cells #[.int .i64 site, .int .i64 seq, .int .i64 n, .int .i64 s, .int .i64 a, .int .i64 b, .slice x2 m cap2] 91)) W) => ch_cells (heap_below hr h))
  clear hR hP hGH hGW hg hs hl hx hr
  by_cases h0 : P0 = 0
  · subst h0
    go_enter Try.func118, Try.ntmps118
    go_upto_region 4 with (go_at_call 59; (with_reducible refine (HPG.out _ HB1.out).mono ?_); rintro e9 w2 ⟨rfl, hb2⟩)
    have HB2 := Lib.hid (HB1.out.trans (hb2.mono HB1.out.size))
    obtain ⟨c0, c1, c2, c3, c4, c5, c6⟩ := HC0.out _ hb2
    have HC2 := Lib.hid (fun W (h : Below w2.heap.size w2 W) => HC0.out W (hb2.trans (h.mono hb2.size)))
    clear hb2 HC0 HB1
    cases GH with
    | false =>
      have HRR := Lib.hid (show R = 120 by rw [HV.out]; rfl)
      clear HV
      go_wp2_with (go_at_call 130; (with_reducible refine (HGH.out _).mono ?_); rintro e9 w3 ⟨rfl, hb3⟩)
      go_ret
      exact ⟨by rw [HRR.out]; rfl, HB2.out.trans (hb3.mono HB2.out.size)⟩
    | true =>
      cases GW with
      | false =>
        have HRR := Lib.hid (show R = 120 by rw [HV.out]; rfl)
        clear HV
        go_wp2_with (first | (go_at_call 130; (with_reducible refine (HGH.out _).mono ?_); rintro e9 w3 ⟨rfl, hb3⟩; obtain ⟨d0, d1, d2, d3, d4, d5, d6⟩ := HC2.out _ hb3; have HB3 := Lib.hid (HB2.out.trans (hb3.mono HB2.out.size)); clear hb3) | (go_at_call 131; (with_reducible refine (HGW.out _ HB3.out).mono ?_); rintro e9 w4 ⟨rfl, hb4⟩))
        go_ret
        exact ⟨by rw [HRR.out]; rfl, HB3.out.trans (hb4.mono HB3.out.size)⟩
      | true =>
        have HRR := Lib.hid (show R = 0 by rw [HV.out]; rfl)
        clear HV
        go_wp2_with (first | (go_at_call 130; (with_reducible refine (HGH.out _).mono ?_); rintro e9 w3 ⟨rfl, hb3⟩; obtain ⟨d0, d1, d2, d3, d4, d5, d6⟩ := HC2.out _ hb3; have HB3 := Lib.hid (HB2.out.trans (hb3.mono HB2.out.size)); clear hb3) | (go_at_call 131; (with_reducible refine (HGW.out _ HB3.out).mono ?_); rintro e9 w4 ⟨rfl, hb4⟩))
        go_ret
        exact ⟨by rw [HRR.out]; rfl, HB3.out.trans (hb4.mono HB3.out.size)⟩
  · have HRR := Lib.hid (show R = P0 by rw [HV.out, if_pos h0])
    have h0n : (P0 != 0) = true := by simpa using h0
    clear HV
    go_enter Try.func118, Try.ntmps118
    go_wp2_with (go_at_call 59; (with_reducible refine (HPG.out _ HB1.out).mono ?_); rintro e9 w2 ⟨rfl, hb2⟩)
    go_ret
    exact ⟨by rw [HRR.out]; rfl, HB1.out.trans (hb2.mono HB1.out.size)⟩
end Go.Proofs.Ytidbjmkfmfojdaa
end

section
namespace Go.Proofs.Ytidbjmkfmfojdaa
open Go.RowKit Go Go.Sort
set_option linter.unusedVariables false
set_option maxRecDepth 20000

theorem pair_cells {W : World} {q : Nat} {x y : Value} {t : TypeId} (h : W.heap[q]? = some (.cells #[x, y] t (0, 0))) : W.cell? ⟨q, 0, none⟩ = some x ∧ W.cell? ⟨q, 1, none⟩ = some y := by
  refine ⟨?_,?_⟩ <;> (rw [cell_of_row _ q _ _ _ (0, 0) h]; rfl)
section
variable {l : List UInt8} {q1 q2 q3 q4 q5 : Nat} {site seq n s a b m9 k f : Int}
end
end Go.Proofs.Ytidbjmkfmfojdaa
end

