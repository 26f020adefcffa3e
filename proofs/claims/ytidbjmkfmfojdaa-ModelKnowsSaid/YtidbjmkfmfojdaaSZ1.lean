/-
  Merged: Ap CS A0 YM MS MZ H7 A2 A3 AH H1 AM AU BK BL BB BE T1.
-/
import Derived.Deep.QuietTactic
import Derived.StillTail
import Derived.Lib.QuietBelow
import Derived.Test.YtidbjmkfmfojdaaRows
import Derived.WalkKit
import Derived.Lib.Hide
import Derived.BigQuiet
import Derived.BigRegion
import Derived.Deep.Cut
import Derived.Deep.MidRow
import Derived.Great.BuildSlice
import Derived.Outline
import Derived.OwnWalk
import Derived.Laws.Rows
import Derived.ChangeKeysEq
import Derived.Laws.StructEq
import Derived.WalkSpells
import Derived.WalkLawsBesides
import Derived.Laws.CopyOwn
import Derived.WalkSmall
import Derived.Lib.LaidTab
import Derived.Deep.RegionWith
import Derived.Lib.MinMax
import Derived.WideShapes
import Derived.ChangeSame
import Derived.OpenShut
import Derived.Deep.Slices
import Derived.Deep.AppendSrc
import Derived.Lib.AppendZerosOnto
import Derived.Lib.SliceRun
import Derived.Lib.Walk
import Derived.Lib.OthersKept
import Derived.Laws.RangeAny
import Derived.Maps.OwnOps
import Derived.Maps.Views
import Derived.ChangeSlices
import Derived.ChangeArms
import Derived.Deep.DeepAppendWide
import Derived.OrdersIn
import Derived.TacticsIn
import Derived.RangeFuncNested
import Derived.RangeFuncBound
import Derived.RangeFuncCalls
import Derived.RangeFuncLeaves
import Derived.Maps.AppendAt
import Derived.Shelf.Abstract
import Derived.OwnWalkIn
import Derived.TacticsInMore
import Derived.LoopNIn
import Derived.LoopIn
import Derived.Test.YtidbjmkfmfojdaaSK6

section
namespace Go.Proofs.Ytidbjmkfmfojdaa
open Go.RowKit
set_option linter.unusedVariables false

section
variable {P : Program}
end

/-- An empty row of the call's own, just made. -/
theorem OwnB.empty (w : World) (B : Nat) (e : TypeId) (hB : B ≤ w.heap.size) : OwnB (w.alloc (.cells #[] e)) B e (.slice (some ⟨w.heap.size, 0, none⟩) 0 0) [] :=
  World.ownsRow_made w #[] 0 hB (by decide) rfl
end Go.Proofs.Ytidbjmkfmfojdaa
end

section
namespace Go.Proofs.Ytidbjmkfmfojdaa
open Go.RowKit Go Go.Sort
set_option linter.unusedVariables false
set_option maxRecDepth 20000

theorem vgood_bd {a b : Int} (h : vgood a b = true) : 0 ≤ a ∧ a ≤ 1099511627776 ∧ 0 ≤ b ∧ b ≤ 1099511627776 := by simpa [vgood] using h
end Go.Proofs.Ytidbjmkfmfojdaa
end

section
namespace Go.Proofs.Ytidbjmkfmfojdaa
open Go.RowKit Go Go.Sort
set_option linter.unusedVariables false

section
variable {K V : Type} {lt : K → K → Bool}
theorem look_cons [DecidableEq K] (r : K × V) (S : List (K × V)) (k : K) : look (r :: S) k = if r.1 = k then some r.2 else look S k := rfl
/-- What a list of lists has at a key. -/
def looks [DecidableEq K] (op : V → V → V) (cs : List (List (K × V))) (k : K) : Option V := cs.foldr (fun S acc => jn op (look S k) acc) none
/-- On what is good, the joining goes in any order. -/
structure ACI (op : V → V → V) (G : V → Prop) : Prop where
  good : ∀ u v, G u → G v → G (op u v)
  comm : ∀ u v, G u → G v → op u v = op v u
  assoc : ∀ u v x, G u → G v → G x → op (op u v) x = op u (op v x)
  self : ∀ u, G u → op u u = u
def OG (G : V → Prop) (u : Option V) : Prop := ∀ c, u = some c → G c
theorem jn_good {op : V → V → V} {G : V → Prop} (h : ACI op G) {u v : Option V} (hu : OG G u) (hv : OG G v) : OG G (jn op u v) := by
  intro c hc
  cases u with
  | none => exact hv c hc
  | some a =>
    cases v with
    | none => exact hu c hc
    | some b => cases hc; exact h.good _ _ (hu _ rfl) (hv _ rfl)
theorem jn_assoc {op : V → V → V} {G : V → Prop} (h : ACI op G) {u v x : Option V} (hu : OG G u) (hv : OG G v) (hx : OG G x) : jn op (jn op u v) x = jn op u (jn op v x) := by
  cases u <;> cases v <;> cases x <;> try rfl
  exact congrArg some (h.assoc _ _ _ (hu _ rfl) (hv _ rfl) (hx _ rfl))
theorem looks_good [DecidableEq K] {op : V → V → V} {G : V → Prop} (h : ACI op G) {k : K} : ∀ {cs : List (List (K × V))}, (∀ S ∈ cs, OG G (look S k)) → OG G (looks op cs k)
  | [], _ => fun c hc => by cases hc
  | S :: cs, hs => jn_good h (hs S (List.mem_cons_self ..)) (looks_good h fun T hT => hs T (List.mem_cons_of_mem _ hT))
theorem looks_append [DecidableEq K] {op : V → V → V} {G : V → Prop} (h : ACI op G) {k : K} {ds : List (List (K × V))} (hd : ∀ S ∈ ds, OG G (look S k)) : ∀ {cs : List (List (K × V))}, (∀ S ∈ cs, OG G (look S k)) → looks op (cs ++ ds) k = jn op (looks op cs k) (looks op ds k)
  | [], _ => rfl
  | S :: cs, hs => by
    show jn op (look S k) (looks op (cs ++ ds) k) = _
    rw [looks_append h hd fun T hT => hs T (List.mem_cons_of_mem _ hT)]
    exact (jn_assoc h (hs S (List.mem_cons_self ..)) (looks_good h fun T hT => hs T (List.mem_cons_of_mem _ hT)) (looks_good h hd)).symm
end
section
variable {α K : Type} {lt : K → K → Bool}
end
section
variable {K V : Type} {lt : K → K → Bool}
theorem made_asc (ht : Strict lt) (op : V → V → V) : ∀ (n : Nat) (cs : List (List (K × V))), cs.length ≤ n → (∀ S ∈ cs, KAsc lt S) → KAsc lt (madeK lt op cs)
  | n, [], _, _ => by rw [made_nil]; exact List.Pairwise.nil
  | n, [S], _, h => by rw [made_one]; exact h S (List.mem_cons_self ..)
  | 0, S :: T :: cs, hn, _ => by simp at hn
  | n + 1, S :: T :: cs, hn, h => by
    have h2 : 2 ≤ (S :: T :: cs).length := by simp
    generalize (S :: T :: cs) = ds at *
    rw [made_two op h2]
    refine mrg_asc ht op _ _ _ (Nat.le_refl _) (made_asc ht op n _ ?_ fun X hX => h X (List.mem_of_mem_take hX)) (made_asc ht op n _ ?_ fun X hX => h X (List.mem_of_mem_drop hX))
    · rw [List.length_take]; omega
    · rw [List.length_drop]; omega
theorem made_look [DecidableEq K] (ht : Strict lt) {op : V → V → V} {G : V → Prop} (hA : ACI op G) (k : K) : ∀ (n : Nat) (cs : List (List (K × V))), cs.length ≤ n → (∀ S ∈ cs, KAsc lt S) → (∀ S ∈ cs, OG G (look S k)) → look (madeK lt op cs) k = looks op cs k
  | n, [], _, _, _ => by rw [made_nil]; rfl
  | n, [S], _, h, _ => by rw [made_one]; exact (jn_none op _).symm
  | 0, S :: T :: cs, hn, _, _ => by simp at hn
  | n + 1, S :: T :: cs, hn, h, hg => by
    have h2 : 2 ≤ (S :: T :: cs).length := by simp
    generalize (S :: T :: cs) = ds at *
    have a1 : ∀ X ∈ ds.take (ds.length / 2), KAsc lt X := fun X hX => h X (List.mem_of_mem_take hX)
    have a2 : ∀ X ∈ ds.drop (ds.length / 2), KAsc lt X := fun X hX => h X (List.mem_of_mem_drop hX)
    have g1 : ∀ X ∈ ds.take (ds.length / 2), OG G (look X k) := fun X hX => hg X (List.mem_of_mem_take hX)
    have g2 : ∀ X ∈ ds.drop (ds.length / 2), OG G (look X k) := fun X hX => hg X (List.mem_of_mem_drop hX)
    rw [made_two op h2, mrg_look ht op k _ _ _ (Nat.le_refl _) (made_asc ht op _ _ (Nat.le_refl _) a1) (made_asc ht op _ _ (Nat.le_refl _) a2),
      made_look ht hA k n _ (by rw [List.length_take]; omega) a1 g1, made_look ht hA k n _ (by rw [List.length_drop]; omega) a2 g2, ← looks_append hA g2 g1, List.take_append_drop]
end
end Go.Proofs.Ytidbjmkfmfojdaa
end

section
namespace Go.Proofs.Ytidbjmkfmfojdaa
open Go.RowKit Go Go.Sort
set_option linter.unusedVariables false
set_option maxRecDepth 20000

theorem wrote_key {x y : Cl} (h : x.key = y.key) : x.wrote = y.wrote := by
  obtain ⟨n, s, a, b, g, t, d, e⟩ := x
  obtain ⟨n', s', a', b', g', t', d', e'⟩ := y
  simp [Cl.key] at h
  obtain ⟨⟨rfl, rfl⟩, rfl, rfl, rfl, rfl⟩ := h
  rfl
end Go.Proofs.Ytidbjmkfmfojdaa
end

section
namespace Go.Proofs.Ytidbjmkfmfojdaa
open Go.RowKit Go Go.Sort
set_option linter.unusedVariables false
set_option maxRecDepth 20000

theorem view_cells {W : World} {q : Nat} {k0 : ByteArray} {v0 : Value} (h : W.heap[q]? = some (.cells #[.string k0, v0] 80 (0, 0))) :
    W.cell? ⟨q, 0, none⟩ = some (.string k0) ∧ W.cell? ⟨q, 1, none⟩ = some v0 ∧ ∀ i, W.frozen? ⟨q, i, none⟩ = false :=
  ⟨by rw [cell_of_row _ q 0 _ _ (0, 0) h]; rfl, by rw [cell_of_row _ q 1 _ _ (0, 0) h]; rfl, fun i => frozen_of_row _ q i _ _ h⟩
end Go.Proofs.Ytidbjmkfmfojdaa
end

section
namespace Go.Proofs.Ytidbjmkfmfojdaa
open Go.RowKit Go Go.Sort
set_option linter.unusedVariables false
set_option maxRecDepth 20000

theorem list_getD {l m : List Cl} (h : l.length = m.length) (hg : ∀ i, i < l.length → l.getD i Cl.zero = m.getD i Cl.zero) : l = m := by
  apply List.ext_getElem h
  intro i h1 h2
  have := hg i h1
  simpa [List.getD_eq_getElem?_getD, List.getElem?_eq_getElem h1, List.getElem?_eq_getElem h2] using this
theorem zip_comm {gs : List Grp} {k : List UInt8} {ca cb : List Cl} (ha : rgoodS gs k ca = 0) (hb : rgoodS gs k cb = 0) : zipN ca cb ca.length = zipN cb ca cb.length := by
  have h3 := (rgood_inv ha).2.2.1
  have h5 := (rgood_inv hb).2.2.1
  refine list_getD (by rw [zipN_len, zipN_len]; omega) fun i hi => ?_
  rw [zipN_len] at hi
  rw [zip_at ca cb hi, zip_at cb ca (by omega)]
  have x1 := good_at ha hi
  have x2 := good_at hb (show i < cb.length by omega)
  exact (lattice x1 x2 x1).1
theorem zip_self {gs : List Grp} {k : List UInt8} {ca : List Cl} (ha : rgoodS gs k ca = 0) : zipN ca ca ca.length = ca := by
  refine list_getD (zipN_len ca ca ca.length) fun i hi => ?_
  rw [zipN_len] at hi
  rw [zip_at ca ca hi]
  have x1 := good_at ha hi
  exact (lattice x1 x1 x1).2.2.2.1
theorem zip_assoc {gs : List Grp} {k : List UInt8} {ca cb cc : List Cl} (ha : rgoodS gs k ca = 0) (hb : rgoodS gs k cb = 0) (hc : rgoodS gs k cc = 0) :
    zipN (zipN ca cb ca.length) cc (zipN ca cb ca.length).length = zipN ca (zipN cb cc cb.length) ca.length := by
  have h3 := (rgood_inv ha).2.2.1
  have h5 := (rgood_inv hb).2.2.1
  have h7 := (rgood_inv hc).2.2.1
  refine list_getD (by rw [zipN_len, zipN_len, zipN_len]) fun i hi => ?_
  rw [zipN_len, zipN_len] at hi
  rw [zip_at _ cc (by rw [zipN_len]; exact hi), zip_at ca cb hi, zip_at ca (zipN cb cc cb.length) hi, zip_at cb cc (by omega)]
  have x1 := good_at ha hi
  have x2 := good_at hb (show i < cb.length by omega)
  have x3 := good_at hc (show i < cc.length by omega)
  exact (lattice x1 x2 x3).2.1
end Go.Proofs.Ytidbjmkfmfojdaa
end

section
namespace Go.Proofs.Ytidbjmkfmfojdaa
open Go.RowKit Go Go.Sort
set_option linter.unusedVariables false
set_option maxRecDepth 20000

theorem seen_one {p n s a b n' s' a' b' d' e' : Int} {g g' : Bool} {t t' : List UInt8} (h : cofS p n s a b g t = (⟨n', s', a', b', g', t', d', e'⟩, 0)) : cseenS p n' s' a' b' g' t' d' e' = if g = true then ([], false) else (t, true) := by
  obtain ⟨hp, hs, hn, hv, hgt, hl, hc⟩ := cof_ok h
  have hn0 : (n != 0) = true := by simp; omega
  obtain ⟨v0, v2, v1, v3⟩ := vgood_bd hv
  rcases hc with ⟨rfl, rfl, hc⟩ | ⟨hpg, hc⟩
  · simp only [Cl.mk.injEq] at hc
    obtain ⟨rfl, rfl, rfl, rfl, rfl, rfl, rfl, rfl⟩ := hc
    simp [cseenS, wroteS]
  · simp only [Cl.mk.injEq] at hc
    obtain ⟨rfl, rfl, rfl, rfl, rfl, rfl, rfl, rfl⟩ := hc
    cases g' with
    | true => simp [cseenS]
    | false =>
      rcases hp with rfl | rfl <;> simp [cseenS, cgoodS, wroteS, hn0, zeroS, hs, hn, hl, vcov, v0, v1, v2, v3, vgood]
section
variable {gs : List Grp} {n s a b : Int} {ws : List Wr}
end
end Go.Proofs.Ytidbjmkfmfojdaa
end

section
namespace Go.Proofs.Ytidbjmkfmfojdaa
open Go.RowKit Go Go.Sort
set_option linter.unusedVariables false
set_option maxRecDepth 20000

theorem aciC (gs : List Grp) (k : List UInt8) : ACI opC (fun u => rgoodS gs k u = 0) where
  good u v hu hv := zip_good hu hv
  comm u v hu hv := zip_comm hu hv
  assoc u v x hu hv hx := zip_assoc hu hv hx
  self u hu := zip_self hu
theorem m_inv {gs : List Grp} {R : List Rp} (h : mgoodS gs R = 0) : pgoodS gs = 0 ∧ ∀ k, k < R.length → mAt gs R k = 0 := by
  unfold mgoodS at h
  by_cases hp : pgoodS gs = 0
  · refine ⟨hp, fun k hk => ?_⟩
    rw [if_neg (not_not_intro hp)] at h
    cases hf : ((List.range R.length).map (mAt gs R)).find? (fun e => decide (e ≠ 0)) with
    | none =>
      have := List.find?_eq_none.1 hf (mAt gs R k) (List.mem_map.2 ⟨k, List.mem_range.2 hk, rfl⟩)
      simpa using this
    | some e =>
      rw [hf] at h
      have := List.find?_some hf
      simp only [Option.getD_some] at h
      rw [h] at this
      simp at this
  · rw [if_pos hp] at h; exact absurd h hp
theorem asc_of_next {R : List Rp} (h : ∀ i, i + 1 < R.length → Op.bytesLess (R.getD i ([], [])).1 (R.getD (i + 1) ([], [])).1 = true) : KAsc Op.bytesLess R := by
  unfold KAsc
  rw [List.pairwise_iff_getElem]
  have g : ∀ i (hi : i < R.length), R.getD i ([], []) = R[i] := fun i hi => by rw [List.getD_eq_getElem?_getD, List.getElem?_eq_getElem hi]; rfl
  have key : ∀ d i, i + d + 1 < R.length → Op.bytesLess (R.getD i ([], [])).1 (R.getD (i + d + 1) ([], [])).1 = true := by
    intro d
    induction d with
    | zero => exact fun i hi => h i hi
    | succ d ih => exact fun i hi => strictT.tr _ _ _ (ih i (by omega)) (h (i + d + 1) (by omega))
  intro i j hi hj hij
  have := key (j - i - 1) i (by omega)
  rw [show i + (j - i - 1) + 1 = j by omega, g i hi, g j hj] at this
  exact this
theorem next_of_asc {R : List Rp} (h : KAsc Op.bytesLess R) {i : Nat} (hi : i + 1 < R.length) : Op.bytesLess (R.getD i ([], [])).1 (R.getD (i + 1) ([], [])).1 = true := by
  have hp := List.pairwise_iff_getElem.1 h i (i + 1) (by omega) hi (by omega)
  rw [List.getD_eq_getElem?_getD, List.getD_eq_getElem?_getD, List.getElem?_eq_getElem (show i < _ by omega), List.getElem?_eq_getElem hi]
  exact hp
theorem mgood_iff {gs : List Grp} {R : List Rp} : mgoodS gs R = 0 ↔ IsSt gs R := by
  have g : ∀ i (hi : i < R.length), R.getD i ([], []) = R[i] := fun i hi => by rw [List.getD_eq_getElem?_getD, List.getElem?_eq_getElem hi]; rfl
  constructor
  · intro h
    obtain ⟨hp, ha⟩ := m_inv h
    refine ⟨hp, asc_of_next fun i hi => ?_, fun r hr => ?_, fun r hr => ?_⟩
    · exact (mAt_zero.1 (ha (i + 1) hi)).2.2 (by omega)
    · obtain ⟨i, hi, rfl⟩ := List.getElem_of_mem hr
      have := (mAt_zero.1 (ha i hi)).1
      rwa [g i hi] at this
    · obtain ⟨i, hi, rfl⟩ := List.getElem_of_mem hr
      have := (mAt_zero.1 (ha i hi)).2.1
      rwa [g i hi] at this
  · intro h
    refine m_yes h.pol fun i hi => mAt_zero.2 ⟨?_,?_, fun h0 => ?_⟩
    · rw [g i hi]; exact h.good _ (List.getElem_mem hi)
    · rw [g i hi]; exact h.bare _ (List.getElem_mem hi)
    · have := next_of_asc h.asc (i := i - 1) (by omega)
      rwa [show i - 1 + 1 = i by omega] at this
end Go.Proofs.Ytidbjmkfmfojdaa
end

section
namespace Go.Proofs.Ytidbjmkfmfojdaa
open Go.RowKit Go Go.Sort
set_option linter.unusedVariables false
set_option maxRecDepth 20000

theorem st_look {gs : List Grp} {cs : List Chg} (hp : pgoodS gs = 0) (ha : ∀ c ∈ cs, c.err gs = 0) (k : List UInt8) : look (stS gs cs).1 k = looks opC (cs.map (Chg.rows gs)) k := by
  rw [st_ok hp ha]
  refine made_look strictT (aciC gs k) k _ _ (Nat.le_refl _) (fun S hS => ?_) (fun S hS c hc => ?_)
  · obtain ⟨c, hc, rfl⟩ := List.mem_map.1 hS
    exact (Chg.st (ha c hc)).asc
  · obtain ⟨c', hc', rfl⟩ := List.mem_map.1 hS
    exact (Chg.st (ha c' hc')).good _ (look_mem hc)
end Go.Proofs.Ytidbjmkfmfojdaa
end

section
namespace Go.Proofs.Ytidbjmkfmfojdaa
open Go.RowKit Go Go.Sort
set_option linter.unusedVariables false
set_option maxRecDepth 20000

set_option maxRecDepth 100000 in
set_option maxHeartbeats 6400000 in
theorem mlight_c {w : World} {x a : Option Addr} {n1 cap m cp : Nat} {L : List Cg} (hn1 : n1 ≤ 9223372036854775807) (hl : ChsAt w a m cp L) :
    Calls Try.prog 29 #[.slice x n1 cap, .slice a m cp, .slice none 0 0] w (fun e w' => ∃ b : Bool, e = .returned (.bool b) ∧ (b = true → m ≤ 600) ∧ Below w.heap.size w w') := by
  have hle2 := hl.1.le
  have hmax2 := hl.1.max
  have HL := Lib.hid hl
  have HAF := Lib.hid (fun W => show Calls Try.prog 27 #[.int .i64 0, .int .i64 (n1 : Int), .int .i64 6000] W _ from radd6_c 0 n1 (by omega) hn1 W)
  clear hl
  go_enter Try.func29, Try.ntmps29
  go_upto_region 3 with (go_at_call 27; (with_reducible refine (HAF.out _).mono ?_); rintro e9 w9 ⟨rfl, rfl⟩)
  go_loopw [7, 8] (fun v i9 wr => ∃ (i q : Nat), i ≤ m ∧ i9 = .int .i64 (i : Int) ∧ v = .int .i64 (q : Int) ∧ q ≤ 6001 ∧ (q ≤ 6000 → 10 * i ≤ q) ∧ Below w.heap.size w wr) (fun _ i9 _ => m - (intOf i9).toNat)
  case atStart => exact ⟨0, satM 0 n1, by omega, rfl, rfl, satM_le _ _, fun _ => by omega, Below.refl _ _⟩
  case round =>
    clear HAF
    obtain ⟨i, q, hi, rfl, rfl, hq, hlo, hB⟩ := hrel
    have HB := Lib.hid hB
    have HLO := Lib.hid hlo
    clear hB hlo
    by_cases him : i < m
    · have hii : (i : Int) < (m : Int) := by omega
      have hic : (i : Int) < (cp : Int) := by omega
      by_cases hf : 6000 < q
      · have hfi : ¬ (q : Int) ≤ 6000 := by omega
        go_wp2
        go_loopw [7, 69] (fun v9 j9 wz => v9 = .int .i64 (q : Int) ∧ j9 = .int .i64 0 ∧ Below w.heap.size w wz) (fun _ _ _ => 0)
        case atStart => exact ⟨rfl, rfl, HB.out⟩
        case round =>
          obtain ⟨rfl, rfl, hB9⟩ := hrel
          have HB9 := Lib.hid hB9
          clear hB9
          go_wp2
          go_ret
          exact ⟨_, rfl, fun h => by have := of_decide_eq_true h; omega, HB9.out⟩
      · have hfi : (q : Int) ≤ 6000 := by omega
        obtain ⟨bk, off, aw, mw, cw, rfl, hu, hmw, hws, hsh, hat⟩ := HL.out.place him
        have hmwl := hws.le
        have hmwm := hws.max
        have HWS := Lib.hid hws
        have HSH := Lib.hid hsh
        have HMW := Lib.hid hmw
        have HAT0 := Lib.hid (fun W (h : Below w.heap.size w W) => (hat W h).2.2.2.2.2.2)
        have HA0 := Lib.hid (fun W => show Calls Try.prog 27 #[.int .i64 (q : Int), .int .i64 10, .int .i64 6000] W _ from radd6_c q 10 hq (by omega) W)
        have HL1 := Lib.hid (show satM q 10 ≤ 6000 → 10 * (i + 1) ≤ satM q 10 from fun h1 => by
          obtain ⟨e, h2⟩ := satM_fits h1
          have := HLO.out (by omega)
          omega)
        clear hu hws hsh hmw hat
        go_upto_region 7 with (go_at_call 27; (with_reducible refine (HA0.out _).mono ?_); rintro e9 w9 ⟨rfl, rfl⟩)
        go_loopw [7, 9] (fun v j9 wz => ∃ (j q : Nat), j ≤ mw ∧ j9 = .int .i64 (j : Int) ∧ v = .int .i64 (q : Int) ∧ q ≤ 6001 ∧ (q ≤ 6000 → 10 * (i + 1) ≤ q) ∧ Below w.heap.size w wz) (fun _ j9 _ => mw - (intOf j9).toNat)
        case atStart => exact ⟨0, satM q 10, by omega, rfl, rfl, satM_le _ _, HL1.out, HB.out⟩
        case round =>
          clear HA0 HL1 HB HLO hf hfi hq
          obtain ⟨j, q2, hj, rfl, rfl, hq2, hlo, hB⟩ := hrel
          have p6 := HAT0.out _ hB
          have HB := Lib.hid hB
          have HLO := Lib.hid hlo
          clear hB hlo
          by_cases hjm : j < mw
          · have hji : (j : Int) < (mw : Int) := by omega
            have hjc : (j : Int) < (cw : Int) := by omega
            by_cases hf : 6000 < q2
            · have hfi : ¬ (q2 : Int) ≤ 6000 := by omega
              go_wp2
              go_roundw
              case rel => exact ⟨i + 1, q2, by omega, by go_num, rfl, hq2, HLO.out, HB.out⟩
              case measure => simp [intOf]; omega
            · have hfi : (q2 : Int) ≤ 6000 := by omega
              obtain ⟨bw, offw, rfl, hatw⟩ := HWS.out.place hjm
              have hmem := mem_getDw (l := (L.getD i Cg.zero).ws) (k := j) (by rw [← HMW.out]; exact hjm)
              have hcx := HSH.out _ hmem
              obtain ⟨y, hy⟩ : ∃ y, (L.getD i Cg.zero).ws.getD j Wr.zero = y := ⟨_, rfl⟩
              rw [hy] at hatw hcx
              obtain ⟨kx, ix, gx, vx⟩ := y
              simp only at hatw hcx
              have HAT := Lib.hid (fun W (h : Below wr.heap.size wr W) => HAT0.out W (HB.out.trans (h.mono HB.out.size)))
              have HAW := Lib.hid (fun W (h : Below wr.heap.size wr W) => hatw W (HB.out.trans (h.mono HB.out.size)))
              have HSZ := Lib.hid (show ((text kx).size : Int) = (kx.length : Int) by rw [text_size])
              have HSZ2 := Lib.hid (show ((text vx).size : Int) = (vx.length : Int) by rw [text_size])
              have HA0 := Lib.hid (fun W => show Calls Try.prog 27 #[.int .i64 (q2 : Int), .int .i64 10, .int .i64 6000] W _ from radd6_c q2 10 hq2 (by omega) W)
              have HA1 := Lib.hid (fun W => radd6_c (satM q2 10) kx.length (satM_le _ _) hcx.1 W)
              have HA2 := Lib.hid (fun W => radd6_c (satM (satM q2 10) kx.length) vx.length (satM_le _ _) hcx.2 W)
              have HST := Lib.hid (satM_grows (k := vx.length) (satM_grows (k := kx.length) (satM_grows (k := 10) HLO.out)))
              clear hatw hmem hcx hy
              go_upto_region 9 with (fail)
              refine wp_region_flow_tail 23 [none,none,none,none,none,none,none,none,none,none,none,none,none,none,none,none,none,none,none,none,none,none,none,none,none,none,none,none,none,none,none,none,none,none,none,none,none,none,none,none,none,none,none, some 0, some 1, some 2, some 3, some 4, some 5, some 6, some 7, some 8, some 9, some 10, some 11, some 12, some 13, some 14, some 15, some 16, some 17, some 18, some 19, some 20, some 21, some 22, none,none,none,none,none,none,none,none,none,none,none,none,none,none,none,none,none,none,none,none,none,none,none,none,none,none,none,none,none,none,none,none,none,none,none,none,none,none,none,none,none,none,none,none,none,none,none,none,none,none,none,none,none,none,none,none] (fun i => [u43, u44, u45, u46, u47, u48, u49, u50, u51, u52, u53, u54, u55, u56, u57, u58, u59, u60, u61, u62, u63, u64, u65].getD i undef) [(fun v _ => v = .int .i64 (q2 : Int)), (fun v _ => v = .int .i64 ((satM q2 10 : Nat) : Int)), (fun v _ => v = .slice (some ⟨bk, off, none⟩) m cp), (fun v _ => v = .int .i64 (i : Int)), (fun v _ => v = .pointer (some ⟨bk, off + i * 7, none⟩)), (fun v _ => v = .pointer (some ⟨bk, off + i * 7 + 6, none⟩)), (fun v _ => v = .slice (some ⟨bw, offw, none⟩) mw cw), (fun v _ => v = .int .i64 (j : Int)), (fun v _ => v = .pointer (some ⟨bw, offw + j * 4, none⟩)), (fun v _ => v = .pointer (some ⟨bw, offw + j * 4, none⟩)), (fun v _ => v = .string (text kx)), (fun v _ => v = .int .i64 (kx.length : Int)), (fun v _ => v = .int .i64 ((satM (satM q2 10) kx.length : Nat) : Int)), (fun v _ => v = .slice (some ⟨bk, off, none⟩) m cp), (fun v _ => v = .int .i64 (i : Int)), (fun v _ => v = .pointer (some ⟨bk, off + i * 7, none⟩)), (fun v _ => v = .pointer (some ⟨bk, off + i * 7 + 6, none⟩)), (fun v _ => v = .slice (some ⟨bw, offw, none⟩) mw cw), (fun v _ => v = .int .i64 (j : Int)), (fun v _ => v = .pointer (some ⟨bw, offw + j * 4, none⟩)), (fun v _ => v = .pointer (some ⟨bw, offw + j * 4 + 3, none⟩)), (fun v _ => v = .string (text vx)), (fun v _ => v = .int .i64 (vx.length : Int))] (fun _ => False) (by kernel_rfl) (by kernel_rfl) (by kernel_rfl) rfl rfl rfl ?_ ?_ ?_
              · intro g hg v X Y hX hY hv
                simp only [List.mem_cons, List.not_mem_nil, or_false] at hg
                rcases hg with rfl | rfl | rfl | rfl | rfl | rfl | rfl | rfl | rfl | rfl | rfl | rfl | rfl | rfl | rfl | rfl | rfl | rfl | rfl | rfl | rfl | rfl | rfl
                all_goals first
                  | exact hv
                  | exact hv.kept hY
              · simp only [flowOpsF, List.take_succ_cons, List.take_zero, and_true]
                refine ⟨?_,?_,?_,?_,?_,?_,?_,?_,?_,?_,?_,?_,?_,?_,?_,?_,?_,?_,?_,?_,?_,?_,?_⟩
                · intro xs W hW hn
                  simp only [flowAct, zwc, zwn]
                  go_wp2_with (fail)
                  exact ⟨rfl, _, rfl, Below.refl _ _, rfl, fun h => h.elim⟩
                · intro xs W hW hn
                  simp [flowNeeds, Region.binds] at hn
                  simp only [flowAct, zwc, zwn]
                  simp only [hn]
                  go_wp2_with (go_at_call 27; (with_reducible refine (HA0.out _).mono ?_); rintro e9 w9 ⟨rfl, rfl⟩)
                  exact ⟨rfl, _, rfl, Below.refl _ _, rfl, fun h => h.elim⟩
                · intro xs W hW hn
                  simp only [flowAct, zwc, zwn]
                  go_wp2_with (fail)
                  exact ⟨rfl, _, rfl, Below.refl _ _, rfl, fun h => h.elim⟩
                · intro xs W hW hn
                  simp only [flowAct, zwc, zwn]
                  go_wp2_with (fail)
                  exact ⟨rfl, _, rfl, Below.refl _ _, rfl, fun h => h.elim⟩
                · intro xs W hW hn
                  simp [flowNeeds, Region.binds] at hn
                  simp only [flowAct, zwc, zwn]
                  try simp only [hn]
                  go_wp2_with (fail)
                  exact ⟨rfl, _, rfl, Below.refl _ _, rfl, fun h => h.elim⟩
                · intro xs W hW hn
                  simp [flowNeeds, Region.binds] at hn
                  simp only [flowAct, zwc, zwn]
                  try simp only [hn]
                  go_wp2_with (fail)
                  exact ⟨rfl, _, rfl, Below.refl _ _, rfl, fun h => h.elim⟩
                · intro xs W hW hn
                  have p6 := HAT.out W hW
                  simp [flowNeeds, Region.binds] at hn
                  simp only [flowAct, zwc, zwn]
                  try simp only [hn]
                  go_wp2_with (fail)
                  exact ⟨rfl, _, rfl, Below.refl _ _, rfl, fun h => h.elim⟩
                · intro xs W hW hn
                  simp only [flowAct, zwc, zwn]
                  go_wp2_with (fail)
                  exact ⟨rfl, _, rfl, Below.refl _ _, rfl, fun h => h.elim⟩
                · intro xs W hW hn
                  simp [flowNeeds, Region.binds] at hn
                  simp only [flowAct, zwc, zwn]
                  try simp only [hn]
                  go_wp2_with (fail)
                  exact ⟨rfl, _, rfl, Below.refl _ _, rfl, fun h => h.elim⟩
                · intro xs W hW hn
                  simp [flowNeeds, Region.binds] at hn
                  simp only [flowAct, zwc, zwn]
                  try simp only [hn]
                  go_wp2_with (fail)
                  exact ⟨rfl, _, rfl, Below.refl _ _, rfl, fun h => h.elim⟩
                · intro xs W hW hn
                  obtain ⟨q0, q1, q2, q3⟩ := HAW.out W hW
                  simp [flowNeeds, Region.binds] at hn
                  simp only [flowAct, zwc, zwn]
                  try simp only [hn]
                  go_wp2_with (fail)
                  exact ⟨rfl, _, rfl, Below.refl _ _, rfl, fun h => h.elim⟩
                · intro xs W hW hn
                  have hsz := HSZ.out
                  simp [flowNeeds, Region.binds] at hn
                  simp only [flowAct, zwc, zwn]
                  try simp only [hn]
                  go_wp2_with (fail)
                  exact ⟨rfl, _, rfl, Below.refl _ _, rfl, fun h => h.elim⟩
                · intro xs W hW hn
                  simp [flowNeeds, Region.binds] at hn
                  simp only [flowAct, zwc, zwn]
                  simp only [hn]
                  go_wp2_with (go_at_call 27; (with_reducible refine (HA1.out _).mono ?_); rintro e9 w9 ⟨rfl, rfl⟩)
                  exact ⟨rfl, _, rfl, Below.refl _ _, rfl, fun h => h.elim⟩
                · intro xs W hW hn
                  simp only [flowAct, zwc, zwn]
                  go_wp2_with (fail)
                  exact ⟨rfl, _, rfl, Below.refl _ _, rfl, fun h => h.elim⟩
                · intro xs W hW hn
                  simp only [flowAct, zwc, zwn]
                  go_wp2_with (fail)
                  exact ⟨rfl, _, rfl, Below.refl _ _, rfl, fun h => h.elim⟩
                · intro xs W hW hn
                  simp [flowNeeds, Region.binds] at hn
                  simp only [flowAct, zwc, zwn]
                  try simp only [hn]
                  go_wp2_with (fail)
                  exact ⟨rfl, _, rfl, Below.refl _ _, rfl, fun h => h.elim⟩
                · intro xs W hW hn
                  simp [flowNeeds, Region.binds] at hn
                  simp only [flowAct, zwc, zwn]
                  try simp only [hn]
                  go_wp2_with (fail)
                  exact ⟨rfl, _, rfl, Below.refl _ _, rfl, fun h => h.elim⟩
                · intro xs W hW hn
                  have p6 := HAT.out W hW
                  simp [flowNeeds, Region.binds] at hn
                  simp only [flowAct, zwc, zwn]
                  try simp only [hn]
                  go_wp2_with (fail)
                  exact ⟨rfl, _, rfl, Below.refl _ _, rfl, fun h => h.elim⟩
                · intro xs W hW hn
                  simp only [flowAct, zwc, zwn]
                  go_wp2_with (fail)
                  exact ⟨rfl, _, rfl, Below.refl _ _, rfl, fun h => h.elim⟩
                · intro xs W hW hn
                  simp [flowNeeds, Region.binds] at hn
                  simp only [flowAct, zwc, zwn]
                  try simp only [hn]
                  go_wp2_with (fail)
                  exact ⟨rfl, _, rfl, Below.refl _ _, rfl, fun h => h.elim⟩
                · intro xs W hW hn
                  simp [flowNeeds, Region.binds] at hn
                  simp only [flowAct, zwc, zwn]
                  try simp only [hn]
                  go_wp2_with (fail)
                  exact ⟨rfl, _, rfl, Below.refl _ _, rfl, fun h => h.elim⟩
                · intro xs W hW hn
                  obtain ⟨q0, q1, q2, q3⟩ := HAW.out W hW
                  simp [flowNeeds, Region.binds] at hn
                  simp only [flowAct, zwc, zwn]
                  try simp only [hn]
                  go_wp2_with (fail)
                  exact ⟨rfl, _, rfl, Below.refl _ _, rfl, fun h => h.elim⟩
                · intro xs W hW hn
                  have hsz2 := HSZ2.out
                  simp [flowNeeds, Region.binds] at hn
                  simp only [flowAct, zwc, zwn]
                  try simp only [hn]
                  go_wp2_with (fail)
                  exact ⟨rfl, _, rfl, Below.refl _ _, rfl, fun h => h.elim⟩
              · intro xs W hW hall hfr
                clear hfr
                simp only [flowAll, and_true, Nat.zero_add, Nat.reduceAdd] at hall
                obtain ⟨-,-,-,-,-,-,-,-,-,-,-,-, e12, -,-,-,-,-,-,-,-,-, e22⟩ := hall
                simp only [flowAct, zwc, zwn, List.drop_succ_cons, List.drop_zero]
                simp only [e12, e22]
                have HB5 := Lib.hid (HB.out.trans (hW.mono HB.out.size))
                clear hW e12 e22 HA0 HA1 HAT HAW HSZ HSZ2
                go_wp2_with (go_at_call 27; (with_reducible refine (HA2.out _).mono ?_); rintro e9 w9 ⟨rfl, rfl⟩)
                go_roundw
                case rel => exact ⟨j + 1, _, by omega, by go_num, rfl, satM_le _ _, HST.out, HB5.out⟩
                case measure => simp [intOf]; omega
          · obtain rfl : j = mw := by omega
            go_wp2
            go_roundw
            case rel => exact ⟨i + 1, q2, by omega, by go_num, rfl, hq2, HLO.out, HB.out⟩
            case measure => simp [intOf]; omega
    · obtain rfl : i = m := by omega
      by_cases hf : 6000 < q
      · have hfi : ¬ (q : Int) ≤ 6000 := by omega
        go_wp2
        go_loopw [7, 69] (fun v9 j9 wz => v9 = .int .i64 (q : Int) ∧ j9 = .int .i64 0 ∧ Below w.heap.size w wz) (fun _ _ _ => 0)
        case atStart => exact ⟨rfl, rfl, HB.out⟩
        case round =>
          obtain ⟨rfl, rfl, hB9⟩ := hrel
          have HB9 := Lib.hid hB9
          clear hB9
          go_wp2
          go_ret
          exact ⟨_, rfl, fun h => by have := of_decide_eq_true h; omega, HB9.out⟩
      · have hfi : (q : Int) ≤ 6000 := by omega
        have HM := Lib.hid (show i ≤ 600 by have := HLO.out (by omega); omega)
        go_wp2
        go_loopw [7, 69] (fun v9 j9 wz => v9 = .int .i64 (q : Int) ∧ j9 = .int .i64 0 ∧ Below w.heap.size w wz) (fun _ _ _ => 0)
        case atStart => exact ⟨rfl, rfl, HB.out⟩
        case round =>
          obtain ⟨rfl, rfl, hB9⟩ := hrel
          have HB9 := Lib.hid hB9
          clear hB9
          go_wp2
          go_ret
          exact ⟨_, rfl, fun h => HM.out, HB9.out⟩
end Go.Proofs.Ytidbjmkfmfojdaa
end

section
namespace Go.Proofs.Ytidbjmkfmfojdaa
open Go.RowKit Go Go.Sort Go.Deep
set_option linter.unusedVariables false
set_option maxRecDepth 20000

theorem wr_trod {H : Type} {enc : TypeId × Value → H} {W : World} {base : Nat} {sp held : Bool} {fuel : Nat} {cs : List Value} {x : DataW H × List MemPlace} (h : DataW.trod enc Try.prog W base (fun _ => sp) held fuel 94 cs = some x) :
    ∃ (k : List UInt8) (i : Int) (g : Bool) (v : List UInt8), cs = [.string (text k), .int .i64 i, .bool g, .string (text v)] ∧ k.length ≤ maxLen ∧ IsI64 i ∧ v.length ≤ maxLen := by
  obtain ⟨xs, m, _, rfl, hl, hlen, hf⟩ := DataW.trod_struct Try.underlying94 h
  have h6 : Try.prog.cellsOf 94 = 4 := by kernel_rfl
  have h3 : Try.prog.cellsOf 3 = 1 := by kernel_rfl
  have h4 : Try.prog.cellsOf 4 = 1 := by kernel_rfl
  have h9 : Try.prog.cellsOf 9 = 1 := by kernel_rfl
  rw [h6] at hl
  match xs, hlen with
  | [y0, y1, y2, y3], _ =>
    have i0 := hf 0 _ rfl
    have i1 := hf 1 _ rfl
    have i2 := hf 2 _ rfl
    have i3 := hf 3 _ rfl
    match cs, hl with
    | [c0, c1, c2, c3], _ =>
      have j0 : DataW.trod enc Try.prog W base (fun _ => sp) held m 9 (([c0, c1, c2, c3].drop 0).take (Try.prog.cellsOf 9)) = some y0 := i0
      have j1 : DataW.trod enc Try.prog W base (fun _ => sp) held m 3 (([c0, c1, c2, c3].drop 1).take (Try.prog.cellsOf 3)) = some y1 := i1
      have j2 : DataW.trod enc Try.prog W base (fun _ => sp) held m 4 (([c0, c1, c2, c3].drop 2).take (Try.prog.cellsOf 4)) = some y2 := i2
      have j3 : DataW.trod enc Try.prog W base (fun _ => sp) held m 9 (([c0, c1, c2, c3].drop 3).take (Try.prog.cellsOf 9)) = some y3 := i3
      rw [h9] at j0 j3
      rw [h3] at j1
      rw [h4] at j2
      obtain ⟨k, e0, _, wk⟩ := DataW.trod_string Try.underlying9 j0
      obtain ⟨i, e1, _, wi⟩ := DataW.trod_int Try.underlying3 j1
      obtain ⟨g, e2, _⟩ := DataW.trod_bool Try.underlying4 j2
      obtain ⟨t, e3, _, wt⟩ := DataW.trod_string Try.underlying9 j3
      simp at e0 e1 e2 e3
      subst e0 e1 e2 e3
      exact ⟨k.data.toList, i, g, t.data.toList, rfl, by simpa using wk, i64_of_wf wi, by simpa using wt⟩
/-- A list of writes that came in. -/
theorem open_wrs {H : Type} {enc : TypeId × Value → H} {W : World} {a : Option Addr} {len cap : Nat} {d : DataW H} {p : List MemPlace} (h : DataW.Trod enc Try.prog W 0 (fun _ => true) true 89 (.slice a len cap) d p) :
    ∃ l, Wrs W a len cap l ∧ WShort l := by
  have hc : Try.prog.cellsOf 94 = 4 := by kernel_rfl
  obtain ⟨fuel, hf⟩ := h
  rcases open_slice Try.underlying89 hf with ⟨hcs, hx⟩ | ⟨x, l, c, m, n, D, Pl, hcs, _, hl, hm, hmm, hx, hcell⟩
  · simp [Value.cells] at hcs
    obtain ⟨rfl, rfl, rfl⟩ := hcs
    exact ⟨[], ⟨rfl, Nat.le_refl _, by omega, .inl rfl⟩, fun c hc => by cases hc⟩
  · simp [Value.cells] at hcs
    obtain ⟨rfl, rfl, rfl⟩ := hcs
    simp only [if_true] at hmm
    subst hmm
    rw [hc] at hcell
    have key : ∀ i, i < m → ∃ q : Wr, (∀ j u, q.arr[j]? = some u → W.cell? ((x.add (i * 4)).add j) = some u) ∧ q.k.length ≤ 9223372036854775807 ∧ q.v.length ≤ 9223372036854775807 := by
      intro i hi
      obtain ⟨cs', h1, h2⟩ := hcell i hi
      obtain ⟨_, h3l, h3⟩ := World.cells?_some h1
      obtain ⟨k', i', g', v', rfl, hk, _, hv⟩ := wr_trod (sp := true) h2
      refine ⟨⟨k', i', g', v'⟩, fun j u hj => ?_, by unfold maxLen at hk; exact hk, by unfold maxLen at hv; exact hv⟩
      have hjl : j < 4 := by
        have := (Array.getElem?_eq_some_iff.1 hj).1
        simpa [Wr.arr] using this
      have h4 := h3 j hjl
      rw [h4]
      rw [← hj]
      simp [Wr.arr]
    obtain ⟨V0, hV0⟩ := choose_at key
    obtain ⟨V, hV⟩ : ∃ V : Nat → Wr, ∀ i, i < m → ((∀ j u, (V i).arr[j]? = some u → W.cell? ((x.add (i * 4)).add j) = some u) ∧ (V i).k.length ≤ 9223372036854775807 ∧ (V i).v.length ≤ 9223372036854775807) := by
      refine ⟨fun i => (V0 i).getD Wr.zero, fun i hi => ?_⟩
      obtain ⟨q, hq, hp⟩ := hV0 i hi
      simp only [hq, Option.getD_some]
      exact hp
    have hgd : ∀ i, i < len → ((List.range len).map V).getD i Wr.zero = V i := fun i hi => by simp [List.getD, hi]
    refine ⟨(List.range len).map V, ⟨by simp, hl, by unfold maxLen at hm; omega, ?_⟩, ?_⟩
    · by_cases hz : m = 0
      · exact .inl hz
      · right
        obtain ⟨b, off, spot⟩ := x
        have h0 := (hV 0 (by omega)).1 0 _ rfl
        have hspot : spot = none := by simpa [Addr.add] using World.cell?_spot h0
        subst hspot
        refine ⟨b, off, rfl, fun i hi j u hj => ?_⟩
        rw [hgd i hi] at hj
        have hq := (hV i (by omega)).1
        have e1 : (⟨b, off, none⟩ : Addr).add (i * 4) = ⟨b, off + i * 4, none⟩ := by
          by_cases h0 : i * 4 = 0
          · rw [h0]; rfl
          · simp [Addr.add, h0]
        rw [e1] at hq
        have e2 : (⟨b, off + i * 4, none⟩ : Addr).add j = ⟨b, off + i * 4 + j, none⟩ := by
          by_cases h0 : j = 0
          · subst h0; rfl
          · simp [Addr.add, h0]
        have h5 := hq j u hj
        rw [e2] at h5
        exact h5
    · intro g hg
      obtain ⟨i, hi, rfl⟩ := List.mem_map.1 hg
      exact (hV i (by have := List.mem_range.1 hi; omega)).2
theorem change_trod {H : Type} {enc : TypeId × Value → H} {W : World} {fuel : Nat} {cs : List Value} {x : DataW H × List MemPlace} (h : DataW.trod enc Try.prog W 0 (fun _ => true) true fuel 91 cs = some x) :
    ∃ (site seq n s a b : Int) (ad : Option Addr) (len cap : Nat) (l : List Wr), cs = [.int .i64 site, .int .i64 seq, .int .i64 n, .int .i64 s, .int .i64 a, .int .i64 b, .slice ad len cap] ∧ Wrs W ad len cap l ∧ WShort l := by
  obtain ⟨xs, m, _, rfl, hl, hlen, hf⟩ := DataW.trod_struct Try.underlying91 h
  have h6 : Try.prog.cellsOf 91 = 7 := by kernel_rfl
  have hs : Try.prog.cellsOf 71 = 2 := by kernel_rfl
  have hv : Try.prog.cellsOf 73 = 2 := by kernel_rfl
  have h3 : Try.prog.cellsOf 3 = 1 := by kernel_rfl
  have hw : Try.prog.cellsOf 89 = 1 := by kernel_rfl
  rw [h6] at hl
  match xs, hlen with
  | [y0, y1, y2, y3, y4], _ =>
    have i0 := hf 0 _ rfl
    have i1 := hf 1 _ rfl
    have i2 := hf 2 _ rfl
    have i3 := hf 3 _ rfl
    have i4 := hf 4 _ rfl
    match cs, hl with
    | [c0, c1, c2, c3, c4, c5, c6], _ =>
      have j0 : DataW.trod enc Try.prog W 0 (fun _ => true) true m 3 (([c0, c1, c2, c3, c4, c5, c6].drop 0).take (Try.prog.cellsOf 3)) = some y0 := i0
      have j1 : DataW.trod enc Try.prog W 0 (fun _ => true) true m 3 (([c0, c1, c2, c3, c4, c5, c6].drop 1).take (Try.prog.cellsOf 3)) = some y1 := i1
      have j2 : DataW.trod enc Try.prog W 0 (fun _ => true) true m 71 (([c0, c1, c2, c3, c4, c5, c6].drop 2).take (Try.prog.cellsOf 71)) = some y2 := i2
      have j3 : DataW.trod enc Try.prog W 0 (fun _ => true) true m 73 (([c0, c1, c2, c3, c4, c5, c6].drop 4).take (Try.prog.cellsOf 73)) = some y3 := i3
      have j4 : DataW.trod enc Try.prog W 0 (fun _ => true) true m 89 (([c0, c1, c2, c3, c4, c5, c6].drop 6).take (Try.prog.cellsOf 89)) = some y4 := i4
      rw [h3] at j0 j1
      rw [hs] at j2
      rw [hv] at j3
      rw [hw] at j4
      obtain ⟨site, e0, _, _⟩ := DataW.trod_int Try.underlying3 j0
      obtain ⟨seq, e1, _, _⟩ := DataW.trod_int Try.underlying3 j1
      obtain ⟨n, s, e2, _, _⟩ := stamp_cells (sp := true) j2
      obtain ⟨a, b, e3, _, _⟩ := vec_cells j3
      have hvv : ∃ a len cap, c6 = .slice a len cap := by
        rcases open_slice Try.underlying89 j4 with ⟨hcs, hx⟩ | ⟨x, l, c, m, n, D, Pl, hcs, _⟩
        · simp at hcs; exact ⟨_, _, _, hcs⟩
        · simp at hcs; exact ⟨_, _, _, hcs⟩
      obtain ⟨ad, len, cap, rfl⟩ := hvv
      obtain ⟨l, h1, h2⟩ := open_wrs (d := y4.1) (p := y4.2) (W := W) (enc := enc) (a := ad) (len := len) (cap := cap) ⟨m, j4⟩
      simp at e0 e1 e2 e3
      obtain ⟨rfl, rfl⟩ := e2
      obtain ⟨rfl, rfl⟩ := e3
      subst e0 e1
      exact ⟨site, seq, n, s, a, b, ad, len, cap, l, rfl, h1, h2⟩
/-- A change that came in. -/
theorem open_change {H : Type} {enc : TypeId × Value → H} {W : World} {base : Nat} {v : Value} {x : DataW H} {p : List MemPlace} (hv : Value.okWide Try.prog W .any base 91 v)
    (h : DataW.Trod enc Try.prog W 0 (fun _ => true) true 91 v x p) : ∃ (site seq n s a b : Int) (ad : Option Addr) (len cap : Nat) (l : List Wr), v = .agg #[.int .i64 site, .int .i64 seq, .int .i64 n, .int .i64 s, .int .i64 a, .int .i64 b, .slice ad len cap] ∧ Wrs W ad len cap l ∧ WShort l := by
  simp only [Value.okWide, Try.underlying91] at hv
  obtain ⟨cs, rfl, hs, _⟩ := hv
  obtain ⟨m, hm⟩ := h
  obtain ⟨site, seq, n, s, a, b, ad, len, cap, l, hc, h1, h2⟩ := change_trod hm
  refine ⟨site, seq, n, s, a, b, ad, len, cap, l, ?_, h1, h2⟩
  congr 1
  apply Array.toList_inj.1
  exact hc
end Go.Proofs.Ytidbjmkfmfojdaa
end

section
namespace Go.Proofs.Ytidbjmkfmfojdaa
open Go.RowKit Go Go.Sort Go.Deep
set_option linter.unusedVariables false
set_option maxRecDepth 20000

theorem open_chs {H : Type} {enc : TypeId × Value → H} {W : World} {a : Option Addr} {len cap : Nat} {d : DataW H} {p : List MemPlace} (h : DataW.Trod enc Try.prog W 0 (fun _ => true) true 88 (.slice a len cap) d p) :
    ∃ l, ChsAt W a len cap l := by
  have hc : Try.prog.cellsOf 91 = 7 := by kernel_rfl
  obtain ⟨fuel, hf⟩ := h
  rcases open_slice Try.underlying88 hf with ⟨hcs, hx⟩ | ⟨x, l, c, m, n, D, Pl, hcs, _, hl, hm, hmm, hx, hcell⟩
  · simp [Value.cells] at hcs
    obtain ⟨rfl, rfl, rfl⟩ := hcs
    exact ⟨[], ⟨rfl, Nat.le_refl _, by omega, .inl rfl⟩, fun j hj => by omega⟩
  · simp [Value.cells] at hcs
    obtain ⟨rfl, rfl, rfl⟩ := hcs
    simp only [if_true] at hmm
    subst hmm
    rw [hc] at hcell
    have key : ∀ i, i < m → ∃ q : Cg, (∀ j u, q.arr[j]? = some u → W.cell? ((x.add (i * 7)).add j) = some u) ∧ ∃ a' c, q.u = .slice a' q.ws.length c ∧ Wrs W a' q.ws.length c q.ws ∧ WShort q.ws := by
      intro i hi
      obtain ⟨cs', h1, h2⟩ := hcell i hi
      obtain ⟨_, h3l, h3⟩ := World.cells?_some h1
      obtain ⟨site, seq, n, s, a, b, ad, len', cap', l', rfl, hw, hx⟩ := change_trod h2
      obtain rfl := hw.len
      refine ⟨⟨site, seq, n, s, a, b, .slice ad l'.length cap', l'⟩, fun j u hj => ?_, ad, cap', rfl, hw, hx⟩
      have hjl : j < 7 := by
        have := (Array.getElem?_eq_some_iff.1 hj).1
        simpa [Cg.arr] using this
      have h4 := h3 j hjl
      rw [h4]
      rw [← hj]
      simp [Cg.arr]
    obtain ⟨V0, hV0⟩ := choose_at key
    obtain ⟨V, hV⟩ : ∃ V : Nat → Cg, ∀ i, i < m → ((∀ j u, (V i).arr[j]? = some u → W.cell? ((x.add (i * 7)).add j) = some u) ∧ ∃ a' c, (V i).u = .slice a' (V i).ws.length c ∧ Wrs W a' (V i).ws.length c (V i).ws ∧ WShort (V i).ws) := by
      refine ⟨fun i => (V0 i).getD Cg.zero, fun i hi => ?_⟩
      obtain ⟨q, hq, hp⟩ := hV0 i hi
      simp only [hq, Option.getD_some]
      exact hp
    have hgd : ∀ i, i < len → ((List.range len).map V).getD i Cg.zero = V i := fun i hi => by simp [List.getD, hi]
    refine ⟨(List.range len).map V, ⟨by simp, hl, by unfold maxLen at hm; omega, ?_⟩, ?_⟩
    · by_cases hz : m = 0
      · exact .inl hz
      · right
        obtain ⟨b, off, spot⟩ := x
        have h0 := (hV 0 (by omega)).1 0 _ rfl
        have hspot : spot = none := by simpa [Addr.add] using World.cell?_spot h0
        subst hspot
        refine ⟨b, off, rfl, fun i hi j u hj => ?_⟩
        rw [hgd i hi] at hj
        have hq := (hV i (by omega)).1
        have e1 : (⟨b, off, none⟩ : Addr).add (i * 7) = ⟨b, off + i * 7, none⟩ := by
          by_cases h0 : i * 7 = 0
          · rw [h0]; rfl
          · simp [Addr.add, h0]
        rw [e1] at hq
        have e2 : (⟨b, off + i * 7, none⟩ : Addr).add j = ⟨b, off + i * 7 + j, none⟩ := by
          by_cases h0 : j = 0
          · subst h0; rfl
          · simp [Addr.add, h0]
        have h5 := hq j u hj
        rw [e2] at h5
        exact h5
    · intro i hi
      have h9 := (hV i (by omega)).2
      rwa [hgd i hi]
/-- Changes of a call's own, whose writes lie wherever. -/
def OwnCg (W : World) (B : Nat) (v : Value) (L : List Cg) : Prop := OwnL 7 91 Cg.arr W B v L
theorem OwnCg.ls {W : World} {B : Nat} {v : Value} {L : List Cg} (h : OwnCg W B v L) : ∃ a cap, v = .slice a L.length cap ∧ Ls 7 Cg.arr Cg.zero W a L.length cap L := OwnL.ls cg_size h
end Go.Proofs.Ytidbjmkfmfojdaa
end

section
namespace Go.Proofs.Ytidbjmkfmfojdaa
open Go.RowKit Go Go.Sort
set_option linter.unusedVariables false
set_option maxRecDepth 20000

/-- append of rows that lie in memory. -/
theorem Ls.srcC {W : World} {a : Option Addr} {n cap : Nat} {L : List Cg} (h : Ls 7 Cg.arr Cg.zero W a n cap L) : n = 0 ∨ ∃ b off, a = some ⟨b, off, none⟩ ∧ ∀ j v, (lCells Cg.arr L)[j]? = some v → W.cell? ((⟨b, off, none⟩ : Addr).add j) = some v := by
  by_cases hn : n = 0
  · exact .inl hn
  · right
    rcases h.adr with h4 | ⟨b, off, rfl, hat⟩
    · have := h.le; omega
    · refine ⟨b, off, rfl, fun j v hj => ?_⟩
      have hjl : j < L.length * 7 := by
        have := (List.getElem?_eq_some_iff.1 hj).1
        rwa [lCells_length (sz := 7) cg_size] at this
      have e := lCells_get (z := Cg.zero) cg_size L (j / 7) (j % 7) (by omega) (Nat.mod_lt _ (by omega))
      rw [show j / 7 * 7 + j % 7 = j by omega, hj] at e
      have := hat (j / 7) (by have := h.len; omega) (j % 7) v e.symm
      rw [addr_add]
      rw [show off + j / 7 * 7 + j % 7 = off + j by omega] at this
      exact this
theorem cgcells_one (L : List Cg) (h : ∀ j, j < L.length → ∃ a n c, (L.getD j Cg.zero).u = .slice a n c) : ∀ v ∈ lCells Cg.arr L, v.oneCell' = true := by
  intro v hv
  obtain ⟨r, hr, hv⟩ := List.mem_flatMap.1 hv
  obtain ⟨j, hj, rfl⟩ := List.getElem_of_mem hr
  obtain ⟨a, n, c, e⟩ := h j hj
  rw [List.getD_eq_getElem?_getD, List.getElem?_eq_getElem hj] at e
  have e : (L[j]).u = .slice a n c := e
  have hv : v ∈ [Value.int .i64 (L[j]).site, .int .i64 (L[j]).seq, .int .i64 (L[j]).n, .int .i64 (L[j]).s, .int .i64 (L[j]).a, .int .i64 (L[j]).b, (L[j]).u] := hv
  rw [e] at hv
  simp only [List.mem_cons, List.not_mem_nil, or_false] at hv
  rcases hv with rfl | rfl | rfl | rfl | rfl | rfl | rfl <;> rfl
end Go.Proofs.Ytidbjmkfmfojdaa
end

section
namespace Go.Proofs.Ytidbjmkfmfojdaa
open Go.RowKit Go Go.Sort
set_option linter.unusedVariables false
set_option maxRecDepth 20000

/-- append of changes that lie in memory: where the new ones stand is told. -/
theorem wpList_append_cgsB {w : World} {ops : Array Oper} {rest : List Oper} {o : Oper} {ac : Act} {Q : Exit → Act → World → Prop} (hgd : o.guard = none) (os ox : Operand)
    (ho : o.op = .call { callee := .builtin .append, args := #[os, ox], argTypes := #[88, 88] })
    {base : Nat} {u : Value} {l M : List Cg} (hs : ac.eval os = u) (hown : OwnL 7 91 Cg.arr w base u l) {a : Option Addr} {cap : Nat} (hx : ac.eval ox = .slice a M.length cap) (hm : ChsAt w a M.length cap M) (h63 : l.length + M.length ≤ 2000000000000) (hbase : base ≤ w.heap.size)
    (h : ∀ v' w', OwnL 7 91 Cg.arr w' base v' (l ++ M) → w.grownBy w' u.ownBlock → (v'.ownBlock = u.ownBlock ∨ ∃ k, w.heap.size ≤ k ∧ v'.ownBlock = some k) → wpList Try.prog ops Q rest (ac.put o.dst v') w') :
    wpList Try.prog ops Q (o :: rest) ac w := by
  obtain ⟨i0, hi, hz0, hz1, hz2⟩ := info_parts Try.infoCg
  rcases hm.1.srcC with hz | ⟨b, off, rfl, hsrc⟩
  · have hM : M = [] := List.eq_nil_of_length_eq_zero hz
    subst hM
    refine wpList_plain hgd fun K hK => ?_
    have hsr : Src Try.prog i0.size 88 (.slice a 0 cap) 0 [] w := by
      cases a with
      | none => exact Src.ofNil w Try.underlying88 cap
      | some a => exact Src.ofSlice w Try.underlying88 a 0 cap [] (by simp) (by simp) (by simp)
    rcases hown.2 with ⟨rfl, hn0⟩ | ⟨g, cp, cur, rfl, hB, hgg, hnc, hcm, hcs, htk⟩
    · have hr := run_append_zero (P := Try.prog) w 88 88 o.type 91 i0 Try.underlying88 hi (.slice a 0 cap) hsr
      unfold Oper.wp execOp
      simp only [ho, resolve, invoke, builtin, Sem.run_bind, Sem.run_pure, Result.andThen_ok, List.map_toArray, List.map_cons, List.map_nil, hs, hx, List.length_nil, hr]
      exact hK _ _ (h _ _ (by rw [List.append_nil]; exact hown) (World.grownBy.refl _ _) (.inl rfl))
    · have hr := run_append_room_src (P := Try.prog) (w := w) 88 88 o.type 91 i0 Try.underlying88 hi g 0 l.length cp (.slice a 0 cap) 0 [] hsr (by omega) (fun j hj => absurd hj (by simp)) (fun j hj => absurd hj (by simp))
      have hw : w.setCells g (0 + l.length * i0.size) [] = w := by simp [World.setCells]
      rw [hw] at hr
      unfold Oper.wp execOp
      simp only [ho, resolve, invoke, builtin, Sem.run_bind, Sem.run_pure, Result.andThen_ok, List.map_toArray, List.map_cons, List.map_nil, hs, hx, List.length_nil, hr]
      exact hK _ _ (h _ _ (by rw [List.append_nil]; exact hown) (World.grownBy.refl _ _) (.inl rfl))
  · have hnl : (lCells Cg.arr M).length = M.length * 7 := by rw [lCells_length (sz := 7) cg_size]
    have hone := cgcells_one M fun j hj => by obtain ⟨a', c', e, -⟩ := hm.2 j hj; exact ⟨_, _, _, e⟩
    refine wpList_plain hgd fun K hK => ?_
    obtain ⟨v', w', hr, h2, h3, -⟩ := run_append_own_wide (P := Try.prog) w base 88 o.type 91 i0 _ 7 72 Try.underlying88 hi hz0 hz1 hz2 rfl (by decide) u l.length (lCells Cg.arr l) hown
      ⟨b, off, none⟩ M.length cap (lCells Cg.arr M) hnl hsrc hone (by unfold maxLen; omega) (by omega) hbase
    have hblk : v'.ownBlock = u.ownBlock ∨ ∃ k, w.heap.size ≤ k ∧ v'.ownBlock = some k := by
      rcases hown.2 with ⟨rfl, hn0⟩ | ⟨g, cp, cur, rfl, hB, hgg, hnc, hcm, hcs, htk⟩
      · by_cases hM0 : M.length = 0
        · have hM : M = [] := List.eq_nil_of_length_eq_zero hM0
          subst hM
          rcases h2.2 with ⟨rfl, -⟩ | ⟨g', cp', cur', rfl, -,-, hn', -, hcs', -⟩
          · exact .inl rfl
          · have hr2 := run_append_zero (P := Try.prog) w 88 88 o.type 91 i0 Try.underlying88 hi (.slice (some ⟨b, off, none⟩) 0 cap) (Src.ofSlice w Try.underlying88 _ 0 cap [] (by simp) (by simp) (by simp))
            have hl0 : l.length = 0 := by omega
            try rw [hl0] at hr
            have hr3 := hr.symm.trans hr2
            injection hr3 with e1 e2
            cases e1
        · have hr2 := run_append_nil (P := Try.prog) w 88 o.type 91 i0 _ Try.underlying88 hi hz0 ⟨b, off, none⟩ M.length cap (lCells Cg.arr M) (by rw [hz1]; exact hnl) hsrc (by omega) (by omega) (by rw [hz2]; omega)
          have hl0 : l.length = 0 := by omega
          try rw [hl0] at hr
          have hr3 := hr.symm.trans hr2
          injection hr3 with e1 e2
          rw [e1]
          exact .inr ⟨_, Nat.le_refl _, rfl⟩
      · by_cases hroom : l.length + M.length ≤ cp
        · have hr2 := run_append_room (P := Try.prog) w 88 o.type 91 i0 Try.underlying88 hi g l.length cp cur hgg ⟨b, off, none⟩ M.length cap (lCells Cg.arr M) (by rw [hz1]; exact hnl) hsrc hone hroom (by rw [hz1, hnl, hcs]; omega)
          have hr3 := hr.symm.trans hr2
          injection hr3 with e1 e2
          rw [e1]
          exact .inl rfl
        · have holds : ∀ j v, (lCells Cg.arr l)[j]? = some v → w.cell? ((⟨g, 0, none⟩ : Addr).add j) = some v := World.ownsRow.cells hown (g := g) rfl
          have hr2 := run_append_grow (P := Try.prog) w 88 o.type 91 i0 _ Try.underlying88 hi hz0 ⟨g, 0, none⟩ l.length cp (lCells Cg.arr l) (by rw [hz1, lCells_length (sz := 7) cg_size]) holds ⟨b, off, none⟩ M.length cap (lCells Cg.arr M) (by rw [hz1]; exact hnl) hsrc (by omega) (by omega) (growslice_fits_wide (by omega) (by rw [hz2]; omega))
          have hr3 := hr.symm.trans hr2
          injection hr3 with e1 e2
          rw [e1]
          exact .inr ⟨_, Nat.le_refl _, rfl⟩
    unfold Oper.wp execOp
    simp only [ho, resolve, invoke, builtin, Sem.run_bind, Sem.run_pure, Result.andThen_ok, List.map_toArray, List.map_cons, List.map_nil, hs, hx, hr]
    exact hK _ _ (h v' w' (by unfold OwnL; rw [List.length_append, lCells_append]; exact h2) h3 hblk)
end Go.Proofs.Ytidbjmkfmfojdaa
end

section
namespace Go.Proofs.Ytidbjmkfmfojdaa
open Go.RowKit Go Go.Sort
set_option linter.unusedVariables false
set_option maxRecDepth 20000

/-- What holds while a region lays a list of changes and one more: 0 and 2 are moves, 1 lays an empty list, 3 appends the changes, 4 loads the last one, 5 lays it, 6 appends it; from 7 on what is made of it. -/
structure InvK (w0 : World) (X C : Value) (l : Cg) (cs : List Cg) (n : Nat) (E : Nat → Value → World → Prop) (L : Nat → Bool) (xs : Nat → Value) (W : World) : Prop where
  bel : Below w0.heap.size w0 W
  m0 : L 0 = true → xs 0 = X
  m2 : L 2 = true → xs 2 = C
  m4 : L 4 = true → xs 4 = .agg l.arr
  c3 : L 3 = true → L 1 = true
  c6 : L 6 = true → L 3 = true ∧ L 5 = true
  c7 : ∀ i, 7 ≤ i → i < n → L i = true → L 6 = true
  p1 : L 1 = true → L 3 = false → ∃ g, xs 1 = .slice (some ⟨g, 0, none⟩) 0 0 ∧ OwnL 7 91 Cg.arr W w0.heap.size (xs 1) []
  p3 : L 3 = true → L 6 = false → OwnL 7 91 Cg.arr W w0.heap.size (xs 3) cs
  p5 : L 5 = true → L 6 = false → ∃ g, xs 5 = .slice (some ⟨g, 0, none⟩) 1 1 ∧ W.heap[g]? = some (.cells l.arr 91 (0, 0)) ∧ (L 1 = true → L 3 = false → (xs 1).ownBlock ≠ some g) ∧ (L 3 = true → (xs 3).ownBlock ≠ some g)
  p6 : L 6 = true → OwnL 7 91 Cg.arr W w0.heap.size (xs 6) (cs ++ [l])
  ext : ∀ i, 7 ≤ i → i < n → L i = true → E i (xs i) W
section
variable {w0 W W' : World} {X C v : Value} {l : Cg} {cs : List Cg} {n : Nat} {E : Nat → Value → World → Prop} {L : Nat → Bool} {xs : Nat → Value}
theorem InvK.start (h9 : 7 ≤ n) (h : ∀ i, i < n → L i = false) (hb : Below w0.heap.size w0 W) : InvK w0 X C l cs n E L xs W := by
  have k : ∀ i, i < n → L i = true → False := fun i hi e => by rw [h i hi] at e; cases e
  exact ⟨hb, fun e => (k 0 (by omega) e).elim, fun e => (k 2 (by omega) e).elim, fun e => (k 4 (by omega) e).elim, fun e => (k 3 (by omega) e).elim, fun e => (k 6 (by omega) e).elim, fun i _ hi e => (k i hi e).elim, fun e => (k 1 (by omega) e).elim, fun e => (k 3 (by omega) e).elim, fun e => (k 5 (by omega) e).elim, fun e => (k 6 (by omega) e).elim, fun i _ hi e => (k i hi e).elim⟩
theorem InvK.v0 (h : InvK w0 X C l cs n E L xs W) (hv : v = X) : InvK w0 X C l cs n E (fun j => if j = 0 then true else L j) (fun j => if j = 0 then v else xs j) W :=
  ⟨h.bel, fun _ => hv, h.m2, h.m4, h.c3, h.c6, fun k h1 h2 h3 => by
    simp only [if_neg (show ¬ k = 0 by omega)] at h3
    exact h.c7 k h1 h2 h3, h.p1, h.p3, h.p5, h.p6, fun k h1 h2 h3 => by
    simp only [if_neg (show ¬ k = 0 by omega)] at h3 ⊢
    exact h.ext k h1 h2 h3⟩
theorem InvK.v2 (h : InvK w0 X C l cs n E L xs W) (hv : v = C) : InvK w0 X C l cs n E (fun j => if j = 2 then true else L j) (fun j => if j = 2 then v else xs j) W :=
  ⟨h.bel, h.m0, fun _ => hv, h.m4, h.c3, h.c6, fun k h1 h2 h3 => by
    simp only [if_neg (show ¬ k = 2 by omega)] at h3
    exact h.c7 k h1 h2 h3, h.p1, h.p3, h.p5, h.p6, fun k h1 h2 h3 => by
    simp only [if_neg (show ¬ k = 2 by omega)] at h3 ⊢
    exact h.ext k h1 h2 h3⟩
theorem InvK.v4 (h : InvK w0 X C l cs n E L xs W) (hv : v = .agg l.arr) : InvK w0 X C l cs n E (fun j => if j = 4 then true else L j) (fun j => if j = 4 then v else xs j) W :=
  ⟨h.bel, h.m0, h.m2, fun _ => hv, h.c3, h.c6, fun k h1 h2 h3 => by
    simp only [if_neg (show ¬ k = 4 by omega)] at h3
    exact h.c7 k h1 h2 h3, h.p1, h.p3, h.p5, h.p6, fun k h1 h2 h3 => by
    simp only [if_neg (show ¬ k = 4 by omega)] at h3 ⊢
    exact h.ext k h1 h2 h3⟩
/-- An empty list is laid. -/
theorem InvK.mk1 (h : InvK w0 X C l cs n E L xs W) (h1 : L 1 = false) (hE : ∀ i v X Y, E i v X → Below X.heap.size X Y → E i v Y) : InvK w0 X C l cs n E (fun j => if j = 1 then true else L j) (fun j => if j = 1 then .slice (some ⟨W.heap.size, 0, none⟩) 0 0 else xs j) (W.alloc (.cells #[] 91)) := by
  have hal := alloc_below W (.cells #[] 91)
  have h3 : L 3 = false := by
    cases e : L 3 with
    | false => rfl
    | true => rw [h.c3 e] at h1; cases h1
  refine ⟨h.bel.trans (hal.mono h.bel.size), h.m0, h.m2, h.m4, fun _ => rfl, h.c6, fun k h1 h2 h3 => by
    simp only [if_neg (show ¬ k = 1 by omega)] at h3
    exact h.c7 k h1 h2 h3, fun _ _ => ⟨_, rfl, ?_⟩, fun e => (by have e : L 3 = true := e; rw [h3] at e; cases e), fun h5 h6 => ?_, fun h6 => (h.p6 h6).kept hal, fun k h1 h2 h3 => by
    simp only [if_neg (show ¬ k = 1 by omega)] at h3 ⊢
    exact hE k _ _ _ (h.ext k h1 h2 h3) hal⟩
  · exact ⟨rfl, .inr ⟨W.heap.size, 0, #[], rfl, h.bel.size, heap_alloc_new _ _, Nat.le_refl _, by decide, rfl, rfl⟩⟩
  · obtain ⟨g, e1, e2, -,-⟩ := h.p5 h5 h6
    exact ⟨g, e1, heap_below e2 hal, fun _ _ e => (by
      have h9 := (Array.getElem?_eq_some_iff.1 e2).1
      have e : some W.heap.size = some g := e
      injection e with e
      omega), fun e => (by have e : L 3 = true := e; rw [h3] at e; cases e)⟩
/-- The last one is laid. -/
theorem InvK.mk5 (h : InvK w0 X C l cs n E L xs W) (h5 : L 5 = false) (hE : ∀ i v X Y, E i v X → Below X.heap.size X Y → E i v Y) : InvK w0 X C l cs n E (fun j => if j = 5 then true else L j) (fun j => if j = 5 then .slice (some ⟨W.heap.size, 0, none⟩) 1 1 else xs j) (W.alloc (.cells l.arr 91)) := by
  have hal := alloc_below W (.cells l.arr 91)
  have h6 : L 6 = false := by
    cases e : L 6 with
    | false => rfl
    | true => rw [(h.c6 e).2] at h5; cases h5
  refine ⟨h.bel.trans (hal.mono h.bel.size), h.m0, h.m2, h.m4, h.c3, fun e => (by have e : L 6 = true := e; rw [h6] at e; cases e), fun k h1 h2 h3 => by
    simp only [if_neg (show ¬ k = 5 by omega)] at h3
    exact h.c7 k h1 h2 h3, fun a b => ?_, fun a b => (h.p3 a b).kept hal, fun _ _ => ⟨_, rfl, heap_alloc_new _ _, fun a b e => ?_, fun a e => ?_⟩, fun e => (by have e : L 6 = true := e; rw [h6] at e; cases e), fun k h1 h2 h3 => by
    simp only [if_neg (show ¬ k = 5 by omega)] at h3 ⊢
    exact hE k _ _ _ (h.ext k h1 h2 h3) hal⟩
  · obtain ⟨g, e1, e2⟩ := h.p1 a b
    exact ⟨g, e1, OwnL.kept e2 hal⟩
  · obtain ⟨g, e1, e2⟩ := h.p1 a b
    have := (OwnL.lt e2 _ e).2
    omega
  · have := (OwnL.lt (h.p3 a h6) _ e).2
    omega
/-- The changes are appended. -/
theorem InvK.app3 (h : InvK w0 X C l cs n E L xs W) (h1 : L 1 = true) (h3 : L 3 = false) (ho : OwnL 7 91 Cg.arr W' w0.heap.size v ([] ++ cs)) (hg : W.grownBy W' (xs 1).ownBlock) (hb : v.ownBlock = (xs 1).ownBlock ∨ ∃ k, W.heap.size ≤ k ∧ v.ownBlock = some k) : InvK w0 X C l cs n E (fun j => if j = 3 then true else L j) (fun j => if j = 3 then v else xs j) W' := by
  have h6 : L 6 = false := by
    cases e : L 6 with
    | false => rfl
    | true => rw [(h.c6 e).1] at h3; cases h3
  have h7 : ∀ k, 7 ≤ k → k < n → L k = true → False := fun k a b c => by rw [h.c7 k a b c] at h6; cases h6
  obtain ⟨g1, e1, o1⟩ := h.p1 h1 h3
  refine ⟨h.bel.grown hg h.bel.size (fun k e => (OwnL.lt o1 k e).1), h.m0, h.m2, h.m4, fun _ => h1, fun e => (by have e : L 6 = true := e; rw [h6] at e; cases e), fun k a b c => ?_, fun _ e => (by cases e), fun _ _ => ho, fun h5 _ => ?_, fun e => (by have e : L 6 = true := e; rw [h6] at e; cases e), fun k a b c => ?_⟩
  · simp only [if_neg (show ¬ k = 3 by omega)] at c
    exact (h7 k a b c).elim
  · obtain ⟨g, e2, e3, e4, -⟩ := h.p5 h5 h6
    have hlt := (Array.getElem?_eq_some_iff.1 e3).1
    have hne := e4 h1 h3
    refine ⟨g, e2, (hg.block g hlt (fun e => hne e.symm)).trans e3, fun _ e => (by cases e), fun _ e => ?_⟩
    have e : v.ownBlock = some g := e
    rcases hb with hb | ⟨k, hk, hb⟩
    · exact hne (hb.symm.trans e)
    · rw [hb] at e; injection e with e; omega
  · simp only [if_neg (show ¬ k = 3 by omega)] at c
    exact (h7 k a b c).elim
/-- The last one is appended. -/
theorem InvK.app6 (h : InvK w0 X C l cs n E L xs W) (h3 : L 3 = true) (h5 : L 5 = true) (h6 : L 6 = false) (ho : OwnL 7 91 Cg.arr W' w0.heap.size v (cs ++ [l])) (hg : W.grownBy W' (xs 3).ownBlock) : InvK w0 X C l cs n E (fun j => if j = 6 then true else L j) (fun j => if j = 6 then v else xs j) W' := by
  have h7 : ∀ k, 7 ≤ k → k < n → L k = true → False := fun k a b c => by rw [h.c7 k a b c] at h6; cases h6
  refine ⟨h.bel.grown hg h.bel.size (fun k e => (OwnL.lt (h.p3 h3 h6) k e).1), h.m0, h.m2, h.m4, h.c3, fun _ => ⟨h3, h5⟩, fun k a b c => rfl, fun _ e => (by have e : L 3 = false := e; rw [h3] at e; cases e), fun _ e => (by cases e), fun _ e => (by cases e), fun _ => ho, fun k a b c => ?_⟩
  simp only [if_neg (show ¬ k = 6 by omega)] at c
  exact (h7 k a b c).elim
/-- What is made of it. -/
theorem InvK.more (h : InvK w0 X C l cs n E L xs W) (i : Nat) (hi : 7 ≤ i) (h6 : L 6 = true) (hb : Below W.heap.size W W') (hv : E i v W') (hE : ∀ i v X Y, E i v X → Below X.heap.size X Y → E i v Y) : InvK w0 X C l cs n E (fun j => if j = i then true else L j) (fun j => if j = i then v else xs j) W' := by
  have e : ∀ k, k < 7 → (if k = i then true else L k) = L k := fun k hk => if_neg (by omega)
  have f : ∀ k, k < 7 → (if k = i then v else xs k) = xs k := fun k hk => if_neg (by omega)
  obtain ⟨hs3, hs5⟩ := h.c6 h6
  refine ⟨h.bel.trans (hb.mono h.bel.size), ?_,?_,?_,?_,?_, fun k a b c => ?_,?_,?_,?_,?_, fun k a b c => ?_⟩
  · rw [e 0 (by omega), f 0 (by omega)]; exact h.m0
  · rw [e 2 (by omega), f 2 (by omega)]; exact h.m2
  · rw [e 4 (by omega), f 4 (by omega)]; exact h.m4
  · rw [e 3 (by omega), e 1 (by omega)]; exact h.c3
  · rw [e 6 (by omega), e 3 (by omega), e 5 (by omega)]; exact h.c6
  · rw [e 6 (by omega)]; exact h6
  · rw [e 1 (by omega), e 3 (by omega), f 1 (by omega)]; exact fun _ h9 => (by rw [hs3] at h9; cases h9)
  · rw [e 6 (by omega)]; exact fun _ h9 => (by rw [h6] at h9; cases h9)
  · rw [e 6 (by omega)]; exact fun _ h9 => (by rw [h6] at h9; cases h9)
  · rw [f 6 (by omega)]; exact fun _ => (h.p6 h6).kept hb
  · by_cases hk : k = i
    · subst hk; simp only [if_pos]; exact hv
    · simp only [if_neg hk] at c ⊢
      exact hE k _ _ _ (h.ext k a b c) hb
end
end Go.Proofs.Ytidbjmkfmfojdaa
end

section
namespace Go.Proofs.Ytidbjmkfmfojdaa
open Go.RowKit Go Go.Sort
set_option linter.unusedVariables false
set_option maxRecDepth 20000

/-- What is asked of a write that a later one knew of. -/
def OldK (n a b s : Int) (k : Key) : Prop := k = Cl.zero.key ∨ (k.1.1 < n ∧ k.2.2.2.1 ≤ a ∧ k.2.2.2.2 ≤ b ∧ (s = 1 → k.2.2.2.1 < a) ∧ (s = 2 → k.2.2.2.2 < b))
structure OldC (n a b s : Int) (c : Cl) : Prop where
  key : OldK n a b s c.key
  d : c.d ≤ a
  e : c.e ≤ b
section
variable {n a b s : Int}
theorem OldC.zero (ha : 0 ≤ a) (hb : 0 ≤ b) : OldC n a b s Cl.zero := ⟨.inl rfl, ha, hb⟩
theorem OldC.two {x y : Cl} (ha : 0 ≤ a) (hb : 0 ≤ b) (hx : OldC n a b s x) (hy : OldC n a b s y) : OldC n a b s (twoS x y) := by
  refine ⟨?_,?_,?_⟩
  · rw [two_key]; split
    · exact hy.key
    · exact hx.key
  · rw [two_d]; have := hx.d; have := hy.d; omega
  · rw [two_e]; have := hx.e; have := hy.e; omega
theorem OldC.join {x y : Cl} (ha : 0 ≤ a) (hb : 0 ≤ b) (hx : OldC n a b s x) (hy : OldC n a b s y) : OldC n a b s (joinC [x, y]) :=
  ((OldC.zero ha hb).two ha hb hx).two ha hb hy
def OldR (n a b s : Int) (u : List Cl) : Prop := ∀ i, i < u.length → OldC n a b s (u.getD i Cl.zero)
theorem OldR.zip {u v : List Cl} (ha : 0 ≤ a) (hb : 0 ≤ b) (hu : OldR n a b s u) (hv : OldR n a b s v) (hl : u.length = v.length) : OldR n a b s (opC u v) := by
  intro i hi
  have hl2 : (opC u v).length = u.length := zipN_len u v u.length
  rw [hl2] at hi
  have := zip_at u v hi
  unfold opC
  rw [this]
  exact (hu i hi).join ha hb (hv i (by omega))
theorem aciO (gs : List Grp) (k : List UInt8) (ha : 0 ≤ a) (hb : 0 ≤ b) : ACI opC (fun u => rgoodS gs k u = 0 ∧ OldR n a b s u) where
  good u v hu hv := ⟨zip_good hu.1 hv.1, hu.2.zip ha hb hv.2 (by rw [(rgood_inv hu.1).2.2.1, (rgood_inv hv.1).2.2.1])⟩
  comm u v hu hv := zip_comm hu.1 hv.1
  assoc u v x hu hv hx := zip_assoc hu.1 hv.1 hx.1
  self u hu := zip_self hu.1
/-- A write's cell. -/
theorem cof_old {p n' s' a' b' : Int} {g : Bool} {t : List UInt8} {x : Cl} (hx : cofS p n' s' a' b' g t = (x, 0)) (h1 : n' < n) (h2 : a' ≤ a) (h3 : b' ≤ b) (h4 : s = 1 → a' < a) (h5 : s = 2 → b' < b) (ha : 0 ≤ a) (hb : 0 ≤ b) : OldC n a b s x := by
  obtain ⟨-,-,-,-,-,-, hc⟩ := cof_ok hx
  rcases hc with ⟨-,-, rfl⟩ | ⟨-, rfl⟩
  · exact ⟨.inl rfl, h2, h3⟩
  · exact ⟨.inr ⟨h1, h2, h3, h4, h5⟩, ha, hb⟩
end
theorem chg_head {gs : List Grp} {c : Chg} (h : c.err gs = 0) : pgoodS gs = 0 ∧ (∀ k, k < c.ws.length → wAt gs.length c.ws k = true) ∧ (c.site = 1 ∨ c.site = 2) ∧ whenS c.n c.s = true ∧ vgood c.a c.b = true ∧ c.seq = (if c.site = 1 then c.a else c.b) ∧ 0 < c.n ∧ 1 ≤ c.seq := by
  obtain ⟨hp, hh, hall⟩ := ch_inv h
  obtain ⟨h1, h2, h3, h4, h5, h6, h7, -,-⟩ := head_ok hh
  have hn : 0 < c.n := by
    unfold sgood at h4
    simp only [decide_eq_true_eq] at h4
    rcases h4 with ⟨-, e⟩ | ⟨e, -⟩
    · rcases h1 with e1 | e1 <;> omega
    · omega
  refine ⟨hp, hall, h1, ?_, h6, ?_, hn, ?_⟩
  · unfold sgood at h4
    unfold whenS sgood
    simp only [decide_eq_true_eq] at h4
    simp [hn]
    omega
  · rcases h1 with e1 | e1
    · rw [e1] at h7 ⊢; simp at h7 ⊢; omega
    · rw [e1] at h7 ⊢; simp at h7 ⊢; omega
  · omega
theorem chg_rinv {gs : List Grp} {c : Chg} (h : c.err gs = 0) : RInv gs c.n c.s c.a c.b c.ws c.ws.length (c.rows gs) := by
  obtain ⟨hp, hall, -, hw, hv, -,-,-⟩ := chg_head h
  exact rinv hp ⟨hw, hv⟩ hall c.ws.length (Nat.le_refl _)
theorem chg_old {gs : List Grp} {c : Chg} (h : c.err gs = 0) {n a b s : Int} (h1 : c.n < n) (h2 : c.a ≤ a) (h3 : c.b ≤ b) (h4 : s = 1 → c.a < a) (h5 : s = 2 → c.b < b) (ha : 0 ≤ a) (hb : 0 ≤ b) {r : Rp} (hr : r ∈ c.rows gs) : OldR n a b s r.2 := by
  obtain ⟨hp, hall, -, hw, hv, -,-,-⟩ := chg_head h
  obtain ⟨q1, q2, q3⟩ := (chg_rinv h).row r hr
  obtain ⟨-,-, k2, -⟩ := rgood_inv q1
  intro i hi
  cases hb2 : hasN c.ws r.1 (i : Int) c.ws.length with
  | false => rw [q2 i (by omega) hb2]; exact OldC.zero ha hb
  | true =>
    obtain ⟨j, hj, e1, e2⟩ := hasN_iff.1 hb2
    have h9 := q3 j hj e1
    have hm := w_at (hall j hj)
    obtain ⟨x, hx⟩ := cof_mine (n := c.n) (s := c.s) (a := c.a) (b := c.b) hp ⟨hw, hv⟩ hm
    rw [show (c.ws.getD j Wr.zero).i.toNat = i by rw [e2]; rfl] at h9 hx
    rw [hx] at h9
    simp only at h9
    rw [h9]
    exact cof_old hx h1 h2 h3 h4 h5 ha hb
theorem wrow_has (gs : List Grp) (n s a b : Int) (ws : List Wr) : ∀ m j, j < m → ∃ r ∈ wrowN gs n s a b ws m, r.1 = (ws.getD j Wr.zero).k
  | 0, j, h => by omega
  | m + 1, j, h => by
    have ih := wrow_has gs n s a b ws m
    show ∃ r ∈ rowPut gs.length (wrowN gs n s a b ws m) (ws.getD m Wr.zero).k (ws.getD m Wr.zero).i.toNat (cofS (gs.getD (ws.getD m Wr.zero).i.toNat ([], 0)).2 n s a b (ws.getD m Wr.zero).g (ws.getD m Wr.zero).v).1, r.1 = (ws.getD j Wr.zero).k
    generalize (cofS (gs.getD (ws.getD m Wr.zero).i.toNat ([], 0)).2 n s a b (ws.getD m Wr.zero).g (ws.getD m Wr.zero).v).1 = x
    generalize (ws.getD m Wr.zero).i.toNat = i
    generalize wrowN gs n s a b ws m = R at *
    have hk : ∃ r ∈ rowPut gs.length R (ws.getD m Wr.zero).k i x, r.1 = (ws.getD m Wr.zero).k := by
      unfold rowPut
      split
      · exact ⟨_, List.mem_append_right _ (List.mem_singleton.2 rfl), rfl⟩
      · rename_i hc
        exact ⟨_, List.mem_set (by
          have : R.length ≠ 0 := fun e => hc (.inl e)
          omega) _, rfl⟩
    by_cases e : j = m
    · subst e; exact hk
    · obtain ⟨r, hr, e2⟩ := ih j (by omega)
      obtain ⟨q, hq, rfl⟩ := List.getElem_of_mem hr
      unfold rowPut
      split
      · exact ⟨_, List.mem_append_left _ hr, e2⟩
      · rename_i hc
        by_cases eq : q = R.length - 1
        · refine ⟨_, List.mem_set (by omega) _, ?_⟩
          rw [← e2]
          have h3 : ¬ ((R.getD (R.length - 1) ([], [])).1 ≠ (ws.getD m Wr.zero).k) := fun h => hc (.inr h)
          have h4 := Classical.not_not.1 h3
          rw [← h4, List.getD_eq_getElem?_getD, ← eq, List.getElem?_eq_getElem hq]; rfl
        · exact ⟨R[q], by
            rw [List.mem_iff_getElem]
            exact ⟨q, by simpa using hq, by rw [List.getElem_set_ne (by omega)]⟩, e2⟩
/-- What is seen of a cell to which a change's write was joined that knew of all of it. -/
theorem last_cell {p n s a b : Int} {g : Bool} {t : List UInt8} {x J : Cl} {q : Int} (hx : cofS p n s a b g t = (x, 0)) (hJ : OldC n a b q J) (hg : J.good p = true) (hq : q = 1 ∨ q = 2) : 
    cseenS p (joinC [J, x]).n (joinC [J, x]).s (joinC [J, x]).a (joinC [J, x]).b (joinC [J, x]).g (joinC [J, x]).t (joinC [J, x]).d (joinC [J, x]).e = if g = true then ([], false) else (t, true) := by
  have hup := good_up hg
  have hxg := (cof_good hx).1
  rw [join_two hup]
  have hgd : (twoS J x).good p = true := good_two hg hxg
  obtain ⟨hp, hs, hn, hv, hgt, hl, hc⟩ := cof_ok hx
  have hd0 := hup.d
  have he0 := hup.e
  have hd := hJ.d
  have he := hJ.e
  have hv0 : 0 ≤ a ∧ 0 ≤ b := by
    simp [vgood] at hv; omega
  rcases hc with ⟨rfl, rfl, rfl⟩ | ⟨hng, rfl⟩
  · rw [if_pos rfl]
    have hk : (twoS J ⟨0, 0, 0, 0, false, [], a, b⟩).key = J.key := by
      rw [two_keyM, maxK_comm]; exact hup.key
    have e1 : (twoS J ⟨0, 0, 0, 0, false, [], a, b⟩).d = a := by rw [two_d]; simp only; omega
    have e2 : (twoS J ⟨0, 0, 0, 0, false, [], a, b⟩).e = b := by rw [two_e]; simp only; omega
    generalize twoS J ⟨0, 0, 0, 0, false, [], a, b⟩ = C at *
    unfold cseenS
    rw [if_neg]
    intro hh
    simp only [Bool.and_eq_true, Bool.not_eq_true'] at hh
    obtain ⟨-, hw, -, hcv⟩ := hh
    have hw2 : J.wrote = true := by rw [← wrote_key hk]; exact hw
    have hab : C.a = J.a ∧ C.b = J.b := by
      simp [Cl.key] at hk; exact ⟨hk.2.2.2.1, hk.2.2.2.2⟩
    rcases hJ.key with hz | ⟨-, k2, k3, k4, k5⟩
    · rw [wrote_key hz] at hw2; exact absurd hw2 (by decide)
    · simp only [vcov, Bool.and_eq_true, decide_eq_true_eq] at hcv
      simp only [Cl.key] at k2 k3 k4 k5
      rcases hq with hq | hq
      · have := k4 hq; omega
      · have := k5 hq; omega
  · have hJn : J.n < n := by
      rcases hJ.key with hz | ⟨k1, -⟩
      · have : J.n = 0 := by simp [Cl.key, Cl.zero] at hz; exact hz.1.1
        omega
      · exact k1
    have hls : lessS J ⟨n, s, a, b, g, t, 0, 0⟩ = true := by
      unfold lessS
      simp only
      rw [if_pos (by simp; intro e; omega)]
      unfold sless
      simp only [decide_eq_true_eq]
      exact .inl hJn
    have e0 : twoS J ⟨n, s, a, b, g, t, 0, 0⟩ = ⟨n, s, a, b, g, t, J.d, J.e⟩ := by
      unfold twoS
      rw [if_pos hls]
      have e1 : (deadJ J ⟨n, s, a, b, g, t, 0, 0⟩).1 = J.d := by
        show max (max 0 J.d) 0 = J.d
        omega
      have e2 : (deadJ J ⟨n, s, a, b, g, t, 0, 0⟩).2 = J.e := by
        show max (max 0 J.e) 0 = J.e
        omega
      rw [e1, e2]
    rw [e0] at hgd ⊢
    simp only
    have hw : wroteS n s a b g t = true := by
      unfold wroteS
      have : (n != 0) = true := by simp; omega
      rw [this]; rfl
    unfold cseenS
    have hgd2 : cgoodS p n s a b g t J.d J.e = true := hgd
    rw [hgd2, hw]
    cases g with
    | true => simp
    | false =>
      have : vcov a b J.d J.e = true := by simp [vcov]; omega
      simp [this]
/-- P13.6, at one write. -/
theorem st_knows {gs : List Grp} {cs : List Chg} {l : Chg} (h : (stS gs (cs ++ [l])).2 = 0) (hold : ∀ c ∈ cs, c.a ≤ l.a ∧ c.b ≤ l.b ∧ c.n < l.n ∧ (if l.site = 1 then c.a else c.b) < l.seq) {j : Nat} (hj : j < l.ws.length) :
    ∃ (u : List Cl) (i : Nat), look (stS gs (cs ++ [l])).1 (l.ws.getD j Wr.zero).k = some u ∧ (l.ws.getD j Wr.zero).i = (i : Int) ∧ i < gs.length ∧ u.length = gs.length ∧
      seenAt gs u i = (if (l.ws.getD j Wr.zero).g = true then ([], false) else ((l.ws.getD j Wr.zero).v, true)) ∧ ((l.ws.getD j Wr.zero).g = true → (l.ws.getD j Wr.zero).v = []) ∧ rgoodS gs (l.ws.getD j Wr.zero).k u = 0 := by
  obtain ⟨hp, hall⟩ := st_inv h
  have hl := hall l (List.mem_append_right _ (List.mem_singleton.2 rfl))
  have hcs : ∀ c ∈ cs, c.err gs = 0 := fun c hc => hall c (List.mem_append_left _ hc)
  obtain ⟨-, hwat, hsite, hwh, hvg, hseq, hn0, hs1⟩ := chg_head hl
  have hm := w_at (hwat j hj)
  obtain ⟨x, hx⟩ := cof_mine (n := l.n) (s := l.s) (a := l.a) (b := l.b) hp ⟨hwh, hvg⟩ hm
  have hv0 : 0 ≤ l.a ∧ 0 ≤ l.b := by simp [vgood] at hvg; omega
  generalize hw : l.ws.getD j Wr.zero = w at *
  have hmay := hm
  unfold mayS at hm
  simp only [Bool.and_eq_true, Bool.or_eq_true, decide_eq_true_eq, Bool.not_eq_true', beq_iff_eq] at hm
  have hi0 : w.i = (w.i.toNat : Int) := by omega
  have hil : w.i.toNat < gs.length := by omega
  -- the own row
  have hrl := chg_rinv hl
  have hown : ∃ v, look (l.rows gs) w.k = some v := by
    cases hlk : look (l.rows gs) w.k with
    | some v => exact ⟨v, rfl⟩
    | none =>
      exfalso
      rw [look_none_iff] at hlk
      obtain ⟨r, hr, e⟩ := wrow_has gs l.n l.s l.a l.b l.ws l.ws.length j hj
      rw [hw] at e
      exact hlk r hr e
  obtain ⟨v, hv⟩ := hown
  have hvm := look_mem hv
  obtain ⟨q1, q2, q3⟩ := hrl.row _ hvm
  have h9 := q3 j hj (by rw [hw])
  rw [hw, hx] at h9
  simp only at h9
  have hvl := (rgood_inv q1).2.2.1
  -- the others
  have hO : ∀ S ∈ cs.map (Chg.rows gs), OG (fun u => rgoodS gs w.k u = 0 ∧ OldR l.n l.a l.b l.site u) (look S w.k) := by
    intro S hS u hu
    obtain ⟨c, hc, rfl⟩ := List.mem_map.1 hS
    obtain ⟨o1, o2, o3, o4⟩ := hold c hc
    refine ⟨(Chg.st (hcs c hc)).good _ (look_mem hu), chg_old (hcs c hc) o3 o1 o2 (fun e => ?_) (fun e => ?_) hv0.1 hv0.2 (look_mem hu)⟩
    · rw [if_pos e] at o4 hseq; omega
    · rw [if_neg (by omega)] at o4 hseq; omega
  have hOl := looks_good (aciO gs w.k hv0.1 hv0.2) hO
  have hlk := st_look hp hall w.k
  rw [List.map_append, looks_append (aciC gs w.k) (ds := [l].map (Chg.rows gs)) (fun S hS u hu => by
      obtain ⟨c, hc, rfl⟩ := List.mem_map.1 hS
      rw [List.mem_singleton] at hc; subst hc
      exact (Chg.st hl).good _ (look_mem hu)) (fun S hS u hu => (hO S hS u hu).1)] at hlk
  have e1 : looks opC ([l].map (Chg.rows gs)) w.k = some v := by
    show jn opC (look (l.rows gs) w.k) none = some v
    rw [jn_none, hv]
  rw [e1] at hlk
  have hgv : w.g = true → w.v = [] := fun e => by
    rcases hm.2.2.2.2 with e2 | e2
    · rw [e] at e2; cases e2
    · exact e2
  have hsv : ∀ u : List Cl, seenAt gs u w.i.toNat = cseenS (gs.getD w.i.toNat ([], 0)).2 (u.getD w.i.toNat Cl.zero).n (u.getD w.i.toNat Cl.zero).s (u.getD w.i.toNat Cl.zero).a (u.getD w.i.toNat Cl.zero).b (u.getD w.i.toNat Cl.zero).g (u.getD w.i.toNat Cl.zero).t (u.getD w.i.toNat Cl.zero).d (u.getD w.i.toNat Cl.zero).e := fun u => rfl
  cases hR : looks opC (cs.map (Chg.rows gs)) w.k with
  | none =>
    rw [hR] at hlk
    refine ⟨v, w.i.toNat, hlk, hi0, hil, hvl, ?_, hgv, q1⟩
    rw [hsv, h9]
    obtain ⟨xn, xs, xa, xb, xg, xt, xd, xe⟩ := x
    exact seen_one hx
  | some u =>
    rw [hR] at hlk
    obtain ⟨hug, huo⟩ := hOl u hR
    have hul := (rgood_inv hug).2.2.1
    refine ⟨opC u v, w.i.toNat, hlk, hi0, hil, by rw [show (opC u v).length = u.length from zipN_len u v u.length, hul], ?_, hgv, zip_good hug q1⟩
    rw [hsv, show (opC u v).getD w.i.toNat Cl.zero = joinC [u.getD w.i.toNat Cl.zero, v.getD w.i.toNat Cl.zero] from zip_at u v (by omega), h9]
    exact last_cell hx (huo _ (by omega)) (good_at hug (by omega)) hsite
theorem fm_look {f : Rp → Option Vp} {key : List UInt8} : ∀ {R : List Rp} {u : List Cl}, KAsc Op.bytesLess R → look R key = some u → (∀ r ∈ R, r.1 ≠ key → f r = none) → R.filterMap f = (f (key, u)).toList
  | [], u, _, hl, _ => by cases hl
  | r :: R, u, ha, hl, hf => by
    unfold KAsc at ha
    rw [List.pairwise_cons] at ha
    rw [look_cons] at hl
    by_cases e : r.1 = key
    · rw [if_pos e] at hl
      cases hl
      have h0 : R.filterMap f = [] := List.filterMap_eq_nil_iff.2 fun x hx => hf x (List.mem_cons_of_mem _ hx) fun e2 => by
        have := ha.1 x hx
        rw [e, e2, strictT.irr] at this
        cases this
      have h1 : (key, r.2) = r := by rw [← e]
      rw [List.filterMap_cons, h0, h1]
      cases f r <;> rfl
    · rw [if_neg e] at hl
      rw [List.filterMap_cons, hf r (List.mem_cons_self ..) e]
      exact fm_look ha.2 hl fun x hx => hf x (List.mem_cons_of_mem _ hx)
/-- What Get tells of a row that is there. -/
theorem get_vws {gs : List Grp} {R : List Rp} {key : List UInt8} {u : List Cl} (hst : IsSt gs R) (hl : look R key = some u) : vwsS gs (fun k => k == key) R = if fieldsN gs u gs.length = [] then [] else [(key, fieldsN gs u gs.length)] := by
  rw [vws_ok (mgood_iff.2 hst), fm_look hst.asc hl fun r hr hne => by
    obtain ⟨k, cs⟩ := r
    exact vw_no (by simpa using hne)]
  have hg := hst.good _ (look_mem hl)
  by_cases e : fieldsN gs u gs.length = []
  · rw [if_pos e, vw_none (by simp) (by rw [view_none (by rw [e]; rfl)])]
    rfl
  · have h2 : (fieldsN gs u gs.length).length ≠ 0 := fun h => e (List.length_eq_zero_iff.1 h)
    rw [if_neg e, vw_some (by simp) (by rw [view_some hg h2]), view_some hg h2]
    rfl
/-- What the law finds of a group among fields. -/
def fScan (g : Int) (fs : List Fld) : Bool × List UInt8 := fs.foldl (fun st f => if f.1 = g then (true, f.2) else st) (false, [])
theorem fScan_snoc (g : Int) (fs : List Fld) (f : Fld) : fScan g (fs ++ [f]) = if f.1 = g then (true, f.2) else fScan g fs := by unfold fScan; rw [List.foldl_append]; rfl
theorem fScan_take (g : Int) (fs : List Fld) (q : Nat) (h : q < fs.length) : fScan g (fs.take (q + 1)) = if (fs.getD q (0, [])).1 = g then (true, (fs.getD q (0, [])).2) else fScan g (fs.take q) := by
  rw [List.take_add_one, List.getElem?_eq_getElem h, List.getD_eq_getElem?_getD, List.getElem?_eq_getElem h]
  exact fScan_snoc _ _ _
theorem fScan_fields (gs : List Grp) (u : List Cl) (g : Nat) : ∀ k, fScan (g : Int) (fieldsN gs u k) = if g < k ∧ (seenAt gs u g).2 = true then (true, (seenAt gs u g).1) else (false, [])
  | 0 => by rw [if_neg (by omega)]; rfl
  | k + 1 => by
    have ih := fScan_fields gs u g k
    cases hs : (seenAt gs u k).2 with
    | true =>
      rw [fieldsN_yes hs, fScan_snoc]
      simp only
      by_cases e : k = g
      · subst e; rw [if_pos rfl, if_pos ⟨by omega, hs⟩]
      · rw [if_neg (by omega), ih]
        by_cases h1 : g < k
        · simp [h1, show g < k + 1 by omega]
        · rw [if_neg (fun h => h1 h.1), if_neg (fun h => by have := h.1; omega)]
    | false =>
      rw [fieldsN_no hs, ih]
      by_cases e : k = g
      · subst e; rw [if_neg (by omega), if_neg (fun h => by rw [hs] at h; cases h.2)]
      · by_cases h1 : g < k
        · simp [h1, show g < k + 1 by omega]
        · rw [if_neg (fun h => h1 h.1), if_neg (fun h => by have := h.1; omega)]
/-- P13.6, as the law asks it. -/
theorem knows_fields {gs : List Grp} {u : List Cl} {i : Nat} {g : Bool} {v : List UInt8} (hi : i < gs.length) (hs : seenAt gs u i = (if g = true then ([], false) else (v, true))) (hv : g = true → v = []) : fScan (i : Int) (fieldsN gs u gs.length) = (!g, v) := by
  rw [fScan_fields, hs]
  cases g with
  | true => rw [hv rfl]; simp
  | false => simp [hi]
end Go.Proofs.Ytidbjmkfmfojdaa
end

section
namespace Go.Proofs.Ytidbjmkfmfojdaa
open Go.RowKit Go Go.Sort
set_option linter.unusedVariables false
set_option maxRecDepth 20000

/-- What is to be seen of the row of a key, its key, and whether something is. -/
def mgetS (gs : List Grp) (R : List Rp) (key : List UInt8) : List UInt8 × List Fld × Bool :=
  if mgoodS gs R = 0 then (match look R key with | some u => viewS gs key u | none => ([], [], false)) else ([], [], false)
theorem mget_bad {gs : List Grp} {R : List Rp} {key : List UInt8} (h : ¬ mgoodS gs R = 0) : mgetS gs R key = ([], [], false) := by unfold mgetS; rw [if_neg h]
theorem mget_none {gs : List Grp} {R : List Rp} {key : List UInt8} (h : look R key = none) : mgetS gs R key = ([], [], false) := by
  unfold mgetS
  split
  · rw [h]
  · rfl
theorem mget_some {gs : List Grp} {R : List Rp} {key : List UInt8} {u : List Cl} (h : mgoodS gs R = 0) (h2 : look R key = some u) : mgetS gs R key = viewS gs key u := by unfold mgetS; rw [if_pos h, h2]
def GetSPost (r : List UInt8 × List Fld × Bool) (w : World) (e : Ending) (w' : World) : Prop := ∃ a c, e = .returned (.tuple #[.agg #[.string (text r.1), .slice a r.2.1.length c], .bool r.2.2]) ∧ FldV r.2.1 (.slice a r.2.1.length c) w' ∧ Below w.heap.size w w'
theorem get_post {gs : List Grp} {R : List Rp} {key : List UInt8} {w w' : World} {e : Ending} (h : GetVPost (vwsS gs (fun k => k == key) R) w e w') : GetSPost (mgetS gs R key) w e w' := by
  obtain ⟨k, fs, fv, b, rfl, hf, hv, hb⟩ := h
  have key' : (k, fs, b) = mgetS gs R key := by
    by_cases hg : mgoodS gs R = 0
    · cases hl : look R key with
      | none =>
        rw [mget_none hl]
        rw [vws_ok hg, List.filterMap_eq_nil_iff.2 (fun r hr => by
          obtain ⟨k', cs⟩ := r
          have := look_none_iff.1 hl _ hr
          exact vw_no (by simpa using this))] at hv
        rcases hv with ⟨-, rfl, rfl, rfl⟩ | ⟨h, -⟩
        · rfl
        · have := h.length_le; simp at this
      | some u =>
        rw [mget_some hg hl]
        rw [get_vws (mgood_iff.1 hg) hl] at hv
        have hgd := (mgood_iff.1 hg).good _ (look_mem hl)
        by_cases e : fieldsN gs u gs.length = []
        · rw [if_pos e] at hv
          rw [view_none (by rw [e]; rfl)]
          rcases hv with ⟨-, rfl, rfl, rfl⟩ | ⟨h, -⟩
          · rfl
          · have := h.length_le; simp at this
        · rw [if_neg e] at hv
          rw [view_some hgd (fun h => e (List.length_eq_zero_iff.1 h))]
          rcases hv with ⟨h, -⟩ | ⟨h, rfl⟩
          · cases h
          · obtain ⟨t, ht⟩ := h
            injection ht with h1 h2
            rw [Prod.mk.injEq] at h1
            rw [h1.1, h1.2]
    · rw [mget_bad hg]
      rw [vws_bad hg] at hv
      rcases hv with ⟨-, rfl, rfl, rfl⟩ | ⟨h, -⟩
      · rfl
      · have := h.length_le; simp at this
  rw [← key']
  obtain ⟨a, c, e, -⟩ := id hf
  subst e
  exact ⟨a, c, rfl, hf, hb⟩
end Go.Proofs.Ytidbjmkfmfojdaa
end

section
namespace Go.Proofs.Ytidbjmkfmfojdaa
open Go.RowKit Go Go.Sort
set_option linter.unusedVariables false
set_option maxRecDepth 20000

theorem chs_one {W : World} {g : Nat} {site seq n s la lb : Int} {ua : Option Addr} {uc : Nat} {ws : List Wr} (h : W.heap[g]? = some (.cells #[.int .i64 site, .int .i64 seq, .int .i64 n, .int .i64 s, .int .i64 la, .int .i64 lb, .slice ua ws.length uc] 91 (0, 0))) (hw : Wrs W ua ws.length uc ws) (hs : WShort ws) : ChsAt W (some ⟨g, 0, none⟩) 1 1 [(⟨site, seq, n, s, la, lb, .slice ua ws.length uc, ws⟩ : Cg)] := by
  refine ⟨⟨rfl, Nat.le_refl _, by omega, .inr ⟨g, 0, rfl, fun i hi j v hj => ?_⟩⟩, fun j hj => ?_⟩
  · obtain rfl : i = 0 := by omega
    simp only [Nat.zero_mul, Nat.zero_add]
    rw [cell_of_row _ g j _ _ (0, 0) h]
    exact hj
  · obtain rfl : j = 0 := by omega
    exact ⟨ua, uc, rfl, hw, hs⟩
theorem chs_snoc {w W : World} {a a' : Option Addr} {m cp n' c' : Nat} {CS : List Cg} {site seq n s la lb : Int} {ua : Option Addr} {uc : Nat} {ws : List Wr} (hl : ChsAt w a m cp CS) (hw : Wrs w ua ws.length uc ws) (hs : WShort ws) (hb : Below w.heap.size w W) (h : Ls 7 Cg.arr Cg.zero W a' n' c' (CS ++ [(⟨site, seq, n, s, la, lb, .slice ua ws.length uc, ws⟩ : Cg)])) : ChsAt W a' n' c' (CS ++ [(⟨site, seq, n, s, la, lb, .slice ua ws.length uc, ws⟩ : Cg)]) :=
  ⟨h, fun j hj => by
    have hlen := h.len
    rw [List.length_append, hl.1.len, List.length_singleton] at hlen
    by_cases e : j < m
    · have e2 : (CS ++ [(⟨site, seq, n, s, la, lb, .slice ua ws.length uc, ws⟩ : Cg)]).getD j Cg.zero = CS.getD j Cg.zero := by
        rw [List.getD_eq_getElem?_getD, List.getD_eq_getElem?_getD, List.getElem?_append_left (by rw [hl.1.len]; exact e)]
      rw [e2]
      obtain ⟨ad, cd, e3, hw, hx⟩ := hl.2 j e
      exact ⟨ad, cd, e3, hw.below hb, hx⟩
    · obtain rfl : j = m := by omega
      have e2 : (CS ++ [(⟨site, seq, n, s, la, lb, .slice ua ws.length uc, ws⟩ : Cg)]).getD j Cg.zero = (⟨site, seq, n, s, la, lb, .slice ua ws.length uc, ws⟩ : Cg) := by
        rw [List.getD_eq_getElem?_getD, List.getElem?_append_right (by rw [hl.1.len]; omega), hl.1.len]; simp
      rw [e2]
      exact ⟨ua, uc, rfl, hw.below hb, hs⟩⟩
/-- What the law asks of each of the others. -/
def OldG (site seq n la lb : Int) (c : Cg) : Prop := c.a ≤ la ∧ c.b ≤ lb ∧ c.n < n ∧ (if site = 1 then c.a else c.b) < seq
theorem st_none0 {gs : List Grp} {cs : List Chg} (h : ¬ (stS gs cs).2 = 0) : (stS gs cs).1 = [] := by
  unfold stS at h ⊢
  split
  · rfl
  · split
    · rename_i h1 h2; rw [if_neg h1, if_pos h2] at h; exact absurd rfl h
    · rfl
theorem view_fs {gs : List Grp} {k : List UInt8} {u : List Cl} (h : rgoodS gs k u = 0) : (viewS gs k u).2.1 = fieldsN gs u gs.length := by
  by_cases e : (fieldsN gs u gs.length).length = 0
  · rw [view_none e, List.eq_nil_of_length_eq_zero e]
  · rw [view_some h e]
theorem wrt_cells {W : World} {q : Nat} {k v : ByteArray} {i : Int} {g : Bool} (h : W.heap[q]? = some (.cells #[.string k, .int .i64 i, .bool g, .string v] 94 (0, 0))) : W.cell? ⟨q, 0, none⟩ = some (.string k) ∧ W.cell? ⟨q, 1, none⟩ = some (.int .i64 i) ∧ W.cell? ⟨q, 2, none⟩ = some (.bool g) ∧ W.cell? ⟨q, 3, none⟩ = some (.string v) :=
  ⟨by rw [cell_of_row _ q 0 _ _ (0, 0) h]; rfl, by rw [cell_of_row _ q 1 _ _ (0, 0) h]; rfl, by rw [cell_of_row _ q 2 _ _ (0, 0) h]; rfl, by rw [cell_of_row _ q 3 _ _ (0, 0) h]; rfl⟩
/-- What State, and what is taken out of it, tell in the region. -/
def StE (R : List Rp) (k : Int) (i : Nat) (v : Value) (W : World) : Prop := (i = 7 ∨ i = 8 → StV R k v W) ∧ (i = 9 ∨ i = 11 → RsV R v W) ∧ (i = 10 ∨ i = 12 → v = .int .i64 k)
theorem StE.kept {R : List Rp} {k : Int} : ∀ i v X Y, StE R k i v X → Below X.heap.size X Y → StE R k i v Y := fun _ _ _ _ h hb => ⟨fun e => (h.1 e).kept hb, fun e => (h.2.1 e).kept hb, h.2.2⟩
theorem StE.mk7 {R : List Rp} {k : Int} {v : Value} {W : World} (h : StV R k v W) : StE R k 7 v W := ⟨fun _ => h, fun e => absurd e (by decide), fun e => absurd e (by decide)⟩
theorem StE.mk8 {R : List Rp} {k : Int} {v : Value} {W : World} (h : StV R k v W) : StE R k 8 v W := ⟨fun _ => h, fun e => absurd e (by decide), fun e => absurd e (by decide)⟩
theorem StE.mk9 {R : List Rp} {k : Int} {v : Value} {W : World} (h : RsV R v W) : StE R k 9 v W := ⟨fun e => absurd e (by decide), fun _ => h, fun e => absurd e (by decide)⟩
theorem StE.mk10 {R : List Rp} {k : Int} {W : World} : StE R k 10 (.int .i64 k) W := ⟨fun e => absurd e (by decide), fun e => absurd e (by decide), fun _ => rfl⟩
theorem StE.mk11 {R : List Rp} {k : Int} {v : Value} {W : World} (h : RsV R v W) : StE R k 11 v W := ⟨fun e => absurd e (by decide), fun _ => h, fun e => absurd e (by decide)⟩
theorem StE.mk12 {R : List Rp} {k : Int} {W : World} : StE R k 12 (.int .i64 k) W := ⟨fun e => absurd e (by decide), fun e => absurd e (by decide), fun _ => rfl⟩
/-- What Light, and its opposite, tell in the region. -/
def LtE (m : Nat) (i : Nat) (v : Value) (W : World) : Prop := (i = 7 → ∃ b : Bool, v = .bool b ∧ (b = true → m ≤ 600)) ∧ (i = 8 → ∃ b : Bool, v = .bool (!b) ∧ (b = true → m ≤ 600))
theorem LtE.kept {m : Nat} : ∀ i v X Y, LtE m i v X → Below X.heap.size X Y → LtE m i v Y := fun _ _ _ _ h _ => h

set_option maxRecDepth 100000 in
set_option maxHeartbeats 12800000 in
theorem mknows_walk {w : World} {x a : Option Addr} {n1 cap m cp : Nat} {gs : List Grp} {CS : List Cg} (hg : Grs w x n1 cap gs) (hs : ∀ g ∈ gs, g.1.length ≤ 9223372036854775807) (hl : ChsAt w a m cp CS) (hm : m ≤ 1999999999998)
    {site seq n s la lb : Int} {ua : Option Addr} {uc : Nat} {ws : List Wr} (hwl : Wrs w ua ws.length uc ws) (hws : WShort ws) :
    Calls Try.prog 10 #[.slice x n1 cap, .slice a m cp, .agg #[.int .i64 site, .int .i64 seq, .int .i64 n, .int .i64 s, .int .i64 la, .int .i64 lb, .slice ua ws.length uc]] w (Tells (.bool true) w) := by
  have hle1 := hg.le
  have hmax1 := hg.max
  have hn1 : n1 ≤ 9223372036854775807 := by omega
  obtain rfl := hl.1.len
  have hal0 := alloc_below w (.cells #[.int .i64 site, .int .i64 seq, .int .i64 n, .int .i64 s, .int .i64 la, .int .i64 lb, .slice ua ws.length uc] 91)
  have hnew0 := heap_alloc_new w (.cells #[.int .i64 site, .int .i64 seq, .int .i64 n, .int .i64 s, .int .i64 la, .int .i64 lb, .slice ua ws.length uc] 91)
  have HG := Lib.hid hg
  have HS := Lib.hid hs
  have HL := Lib.hid hl
  have HM9 := Lib.hid hm
  have HWL := Lib.hid hwl
  have HWS := Lib.hid hws
  clear hg hs hl hm hwl hws
  go_enter Try.func10, Try.ntmps10
  go_upto_region 1 with (fail)
  obtain ⟨B, hB⟩ : ∃ q, w.heap.size = q := ⟨_, rfl⟩
  rw [hB] at hnew0 ⊢
  clear hB
  generalize w.alloc (.cells #[.int .i64 site, .int .i64 seq, .int .i64 n, .int .i64 s, .int .i64 la, .int .i64 lb, .slice ua ws.length uc] 91) = W1 at *
  obtain ⟨W0, hW0⟩ : ∃ X, ({ W1 with drawn := W1.drawn + 1 } : World) = X := ⟨_, rfl⟩
  have hd0 : Below W1.heap.size W1 W0 := by rw [← hW0]; exact ⟨rfl, rfl, rfl, Nat.le_refl _, fun _ _ => rfl⟩
  have HW0 := Lib.hid (hal0.trans (hd0.mono hal0.size))
  have HQ0 := Lib.hid (heap_below hnew0 hd0)
  have HWX := Lib.hid hW0
  clear hal0 hnew0 hd0
  refine wp_region_inv [none,none,none,none,none,none,none,none,none,none,none,none,none,none,none,none,none,none,none, some 0, some 1, some 2, some 3, some 4, some 5, some 6, some 7, some 8, none,none,none,none,none,none,none,none,none,none,none,none,none,none,none,none,none,none,none,none,none,none,none,none,none,none,none,none,none,none,none,none,none,none,none,none,none,none,none,none,none,none,none,none,none,none,none,none,none,none,none,none,none,none,none,none,none,none,none,none,none,none,none,none,none,none,none,none,none,none,none,none,none,none,none,none,none,none,none,none,none,none,none,none,none,none,none,none,none,none,none,none,none,none,none,none,none,none,none,none,none,none,none,none,none,none,none,none,none,none,none,none,none,none,none] (fun i => [undef,undef,undef,undef,undef,undef,undef,undef,undef].getD i undef) (InvK W0 (.slice x n1 cap) (.slice a CS.length cp) (⟨site, seq, n, s, la, lb, .slice ua ws.length uc, ws⟩ : Cg) CS 9 (LtE (CS.length + 1))) (by kernel_rfl) (by kernel_rfl) rfl rfl (fun L hL => InvK.start (by omega) hL (by rw [HWX.out]; exact Below.refl _ _)) ?_ ?_
  · simp only [invOps, and_true]
    refine ⟨?_,?_,?_,?_,?_,?_,?_,?_,?_⟩
    · intro L xs W hI hL hn
      simp only [flowAct, zwc, zwn]
      go_wp2_with (fail)
      exact ⟨rfl, _, rfl, hI.v0 rfl⟩
    · intro L xs W hI hL hn
      simp only [flowAct, zwc, zwn]
      go_wp2_with (fail)
      exact ⟨rfl, _, rfl, hI.mk1 hL LtE.kept⟩
    · intro L xs W hI hL hn
      simp only [flowAct, zwc, zwn]
      go_wp2_with (fail)
      exact ⟨rfl, _, rfl, hI.v2 rfl⟩
    · intro L xs W hI hL hn
      simp [invNeeds, Region.binds] at hn
      obtain ⟨g1, e1, o1⟩ := hI.p1 (by simp only [hn]) hL
      have e2 := hI.m2 (by simp only [hn])
      have o2 := o1
      rw [e1] at o2
      have hlw := HL.out.below (HW0.out.trans (hI.bel.mono HW0.out.size))
      simp only [flowAct, zwc, zwn]
      simp only [e1, e2]
      go_wp2_with (at_builtin; refine wpList_append_cgsB rfl _ _ rfl rfl o2 rfl hlw (by simp; have := HM9.out; omega) hI.bel.size ?_; intro v' w' ho' hg' hb'; rw [← e1] at hg' hb')
      exact ⟨rfl, _, rfl, hI.app3 (by simp only [hn]) hL ho' hg' hb'⟩
    · intro L xs W hI hL hn
      obtain ⟨b0, b1, b2, b3, b4, b5, b6⟩ := ch_cells (heap_below HQ0.out hI.bel)
      simp only [flowAct, zwc, zwn]
      go_wp2_with (fail)
      exact ⟨rfl, _, rfl, hI.v4 rfl⟩
    · intro L xs W hI hL hn
      simp [invNeeds, Region.binds] at hn
      have e4 := hI.m4 hn
      simp only [flowAct, zwc, zwn]
      simp only [e4, Cg.arr]
      go_wp2_with (fail)
      exact ⟨rfl, _, rfl, hI.mk5 hL LtE.kept⟩
    · intro L xs W hI hL hn
      simp [invNeeds, Region.binds] at hn
      have h3 : L 3 = true := by simp only [hn]
      have h5 : L 5 = true := by simp only [hn]
      have o3 := hI.p3 h3 hL
      obtain ⟨g5, e5, hb5, -,-⟩ := hI.p5 h5 hL
      have hone : ChsAt W (some ⟨g5, 0, none⟩) 1 1 [(⟨site, seq, n, s, la, lb, .slice ua ws.length uc, ws⟩ : Cg)] := chs_one hb5 (HWL.out.below (HW0.out.trans (hI.bel.mono HW0.out.size))) HWS.out
      simp only [flowAct, zwc, zwn]
      simp only [e5]
      go_wp2_with (at_builtin; refine wpList_append_cgsB (M := [(⟨site, seq, n, s, la, lb, .slice ua ws.length uc, ws⟩ : Cg)]) rfl _ _ rfl rfl o3 rfl hone (by simp; have := HM9.out; omega) hI.bel.size ?_; intro v' w' ho' hg' hb')
      exact ⟨rfl, _, rfl, hI.app6 h3 h5 hL ho' hg'⟩
    · intro L xs W hI hL hn
      simp [invNeeds, Region.binds] at hn
      have h0 : L 0 = true := by simp only [hn]
      have h6 : L 6 = true := by simp only [hn]
      have e0 := hI.m0 h0
      have o6 := hI.p6 h6
      obtain ⟨a6, c6, e6, hls⟩ := OwnL.ls (z := Cg.zero) cg_size o6
      have hch := chs_snoc HL.out HWL.out HWS.out (HW0.out.trans (hI.bel.mono HW0.out.size)) hls
      rw [List.length_append, List.length_singleton] at e6 hch
      have HLT := Lib.hid (mlight_c (x := x) (cap := cap) hn1 hch)
      clear hls
      simp only [flowAct, zwc, zwn]
      simp only [e0, e6]
      go_wp2_with (go_at_call 29; (with_reducible refine HLT.out.mono ?_); rintro e9 w9 ⟨b, rfl, hb, hb9⟩)
      exact ⟨rfl, _, rfl, hI.more 7 (by decide) h6 hb9 ⟨fun _ => ⟨b, rfl, hb⟩, fun e => absurd e (by decide)⟩ LtE.kept⟩
    · intro L xs W hI hL hn
      simp [invNeeds, Region.binds] at hn
      obtain ⟨b, e7, hb⟩ := (hI.ext 7 (by decide) (by decide) hn).1 rfl
      have h6 := hI.c7 7 (by decide) (by decide) hn
      simp only [flowAct, zwc, zwn]
      simp only [e7]
      go_wp2_with (fail)
      exact ⟨rfl, _, rfl, hI.more 8 (by decide) h6 (Below.refl _ _) ⟨fun e => absurd e (by decide), fun _ => ⟨b, rfl, hb⟩⟩ LtE.kept⟩
  · intro L xs W hI hall
    obtain ⟨b, e8, hb⟩ := (hI.ext 8 (by decide) (by decide) (hall 8 (by decide))).2 rfl
    simp only [flowAct, zwc, zwn]
    simp only [e8]
    have hbel := hI.bel
    have HW := Lib.hid (HW0.out.trans (hbel.mono HW0.out.size))
    have HQ := Lib.hid (heap_below HQ0.out hbel)
    clear hall hbel hI e8 HW0 HQ0 HWX hW0
    cases b with
    | false =>
      go_wp2_with (go_at_call 30; (with_reducible refine (mlives_c _).mono ?_); rintro e9 w9 ⟨rfl, hb9⟩)
      go_ret
      exact ⟨rfl, HW.out.trans (hb9.mono HW.out.size)⟩
    | true =>
      have hm6 : CS.length + 1 ≤ 600 := hb rfl
      clear hb
      obtain ⟨b0, b1, b2, b3, b4, b5, b6⟩ := ch_cells HQ.out
      by_cases hsite : site = 1 ∨ site = 2
      · obtain ⟨hs1, hs2⟩ : 1 ≤ site ∧ site ≤ 2 := by omega
        have HSI := Lib.hid hsite
        go_upto_region 5 with (fail)
        clear b0 b1 b2 b3 b4 b5 b6 hs1 hs2 hsite
        go_wp2
        go_loopw [40] (fun j9 wr => ∃ k : Nat, k ≤ CS.length ∧ j9 = .int .i64 (k : Int) ∧ (∀ j, j < k → OldG site seq n la lb (CS.getD j Cg.zero)) ∧ Below W.heap.size W wr) (fun j9 _ => CS.length - (intOf j9).toNat)
        case atStart => exact ⟨0, by omega, rfl, fun j hj => by omega, Below.refl _ _⟩
        case round =>
          obtain ⟨k, hk, rfl, hold, hbx⟩ := hrel
          have HOLD := Lib.hid hold
          have HBx := Lib.hid hbx
          have HWR := Lib.hid (HW.out.trans (hbx.mono HW.out.size))
          have HQR := Lib.hid (heap_below HQ.out hbx)
          clear hold hbx
          by_cases hkn : k < CS.length
          · have hki : (k : Int) < (CS.length : Int) := by omega
            have hle2 := HL.out.1.le
            have hmx2 := HL.out.1.max
            have hkc : (k : Int) < (cp : Int) := by omega
            obtain ⟨bo, offo, a9, n9, c9, rfl, eu, -,-,-, hat⟩ := HL.out.place hkn
            have HNX := Lib.hid (fun (h : OldG site seq n la lb (CS.getD k Cg.zero)) j (hj : j < k + 1) => (show OldG site seq n la lb (CS.getD j Cg.zero) from if e : j = k then e ▸ h else HOLD.out j (by omega)))
            obtain ⟨y, hy⟩ : ∃ y, CS.getD k Cg.zero = y := ⟨_, rfl⟩
            rw [hy] at hat eu HNX
            obtain ⟨ks, kq, kn, kt, ka, kb, ku, kw⟩ := y
            simp only at hat eu
            subst eu
            obtain ⟨o0, o1, o2, o3, o4, o5, o6⟩ := hat _ HWR.out
            clear hat hy
            go_upto_region 8 with (fail)
            have hal := alloc_below wr (.cells #[.int .i64 ks, .int .i64 kq, .int .i64 kn, .int .i64 kt, .int .i64 ka, .int .i64 kb, .slice a9 n9 c9] 91)
            have hnew := heap_alloc_new wr (.cells #[.int .i64 ks, .int .i64 kq, .int .i64 kn, .int .i64 kt, .int .i64 ka, .int .i64 kb, .slice a9 n9 c9] 91)
            have HB2 := Lib.hid (HBx.out.trans (hal.mono HBx.out.size))
            obtain ⟨b0, b1, b2, b3, b4, b5, b6⟩ := ch_cells (heap_below HQR.out hal)
            obtain ⟨g, hgg⟩ : ∃ z, wr.heap.size = z := ⟨_, rfl⟩
            rw [hgg] at hnew ⊢
            generalize wr.alloc (.cells #[.int .i64 ks, .int .i64 kq, .int .i64 kn, .int .i64 kt, .int .i64 ka, .int .i64 kb, .slice a9 n9 c9] 91) = W2 at *
            obtain ⟨d0, d1, d2, d3, d4, d5, d6⟩ := ch_cells hnew
            clear hal hnew hgg o0 o1 o2 o3 o4 o5 o6 HBx HQR
            have hsite := HSI.out
            rcases hsite with rfl | rfl
            · by_cases h1 : la < ka
              · have t1 : decide (la < ka) = true := decide_eq_true h1
                go_quiet (fail)
                have hdr := below_drewN (Below.refl W2.heap.size W2) nq
                have HB3 := Lib.hid (HW.out.trans ((HB2.out.trans (hdr.mono HB2.out.size)).mono HW.out.size))
                clear hdr
                go_wp2_with (go_at_call 30; (with_reducible refine (mlives_c _).mono ?_); rintro e9 w9 ⟨rfl, hb9⟩)
                go_ret
                exact ⟨rfl, HB3.out.trans (hb9.mono HB3.out.size)⟩
              · have t1 : decide (la < ka) = false := decide_eq_false h1
                by_cases h2 : lb < kb
                · have t2 : decide (lb < kb) = true := decide_eq_true h2
                  go_quiet (fail)
                  have hdr := below_drewN (Below.refl W2.heap.size W2) nq
                  have HB3 := Lib.hid (HW.out.trans ((HB2.out.trans (hdr.mono HB2.out.size)).mono HW.out.size))
                  clear hdr
                  go_wp2_with (go_at_call 30; (with_reducible refine (mlives_c _).mono ?_); rintro e9 w9 ⟨rfl, hb9⟩)
                  go_ret
                  exact ⟨rfl, HB3.out.trans (hb9.mono HB3.out.size)⟩
                · have t2 : decide (lb < kb) = false := decide_eq_false h2
                  by_cases h3 : n ≤ kn
                  · have t3 : decide (n ≤ kn) = true := decide_eq_true h3
                    go_quiet (fail)
                    have hdr := below_drewN (Below.refl W2.heap.size W2) nq
                    have HB3 := Lib.hid (HW.out.trans ((HB2.out.trans (hdr.mono HB2.out.size)).mono HW.out.size))
                    clear hdr
                    go_wp2_with (go_at_call 30; (with_reducible refine (mlives_c _).mono ?_); rintro e9 w9 ⟨rfl, hb9⟩)
                    go_ret
                    exact ⟨rfl, HB3.out.trans (hb9.mono HB3.out.size)⟩
                  · have t3 : decide (n ≤ kn) = false := decide_eq_false h3
                    by_cases h4 : seq ≤ ka
                    · have t4 : decide (seq ≤ ka) = true := decide_eq_true h4
                      go_quiet (fail)
                      have hdr := below_drewN (Below.refl W2.heap.size W2) nq
                      have HB3 := Lib.hid (HW.out.trans ((HB2.out.trans (hdr.mono HB2.out.size)).mono HW.out.size))
                      clear hdr
                      go_wp2_with (go_at_call 30; (with_reducible refine (mlives_c _).mono ?_); rintro e9 w9 ⟨rfl, hb9⟩)
                      go_ret
                      exact ⟨rfl, HB3.out.trans (hb9.mono HB3.out.size)⟩
                    · have t4 : decide (seq ≤ ka) = false := decide_eq_false h4
                      go_quiet (fail)
                      have hdr := below_drewN (Below.refl W2.heap.size W2) nq
                      have HB3 := Lib.hid (HB2.out.trans (hdr.mono HB2.out.size))
                      have HOK := Lib.hid (HNX.out ⟨by show ka ≤ la; omega, by show kb ≤ lb; omega, by show kn < n; omega, by show (if (1 : Int) = 1 then ka else kb) < seq; simp; omega⟩)
                      clear hdr
                      go_wp2
                      go_roundw
                      case rel => exact ⟨k + 1, by omega, by go_num, HOK.out, HB3.out⟩
                      case measure => simp [intOf]; omega
            · by_cases h1 : la < ka
              · have t1 : decide (la < ka) = true := decide_eq_true h1
                go_quiet (fail)
                have hdr := below_drewN (Below.refl W2.heap.size W2) nq
                have HB3 := Lib.hid (HW.out.trans ((HB2.out.trans (hdr.mono HB2.out.size)).mono HW.out.size))
                clear hdr
                go_wp2_with (go_at_call 30; (with_reducible refine (mlives_c _).mono ?_); rintro e9 w9 ⟨rfl, hb9⟩)
                go_ret
                exact ⟨rfl, HB3.out.trans (hb9.mono HB3.out.size)⟩
              · have t1 : decide (la < ka) = false := decide_eq_false h1
                by_cases h2 : lb < kb
                · have t2 : decide (lb < kb) = true := decide_eq_true h2
                  go_quiet (fail)
                  have hdr := below_drewN (Below.refl W2.heap.size W2) nq
                  have HB3 := Lib.hid (HW.out.trans ((HB2.out.trans (hdr.mono HB2.out.size)).mono HW.out.size))
                  clear hdr
                  go_wp2_with (go_at_call 30; (with_reducible refine (mlives_c _).mono ?_); rintro e9 w9 ⟨rfl, hb9⟩)
                  go_ret
                  exact ⟨rfl, HB3.out.trans (hb9.mono HB3.out.size)⟩
                · have t2 : decide (lb < kb) = false := decide_eq_false h2
                  by_cases h3 : n ≤ kn
                  · have t3 : decide (n ≤ kn) = true := decide_eq_true h3
                    go_quiet (fail)
                    have hdr := below_drewN (Below.refl W2.heap.size W2) nq
                    have HB3 := Lib.hid (HW.out.trans ((HB2.out.trans (hdr.mono HB2.out.size)).mono HW.out.size))
                    clear hdr
                    go_wp2_with (go_at_call 30; (with_reducible refine (mlives_c _).mono ?_); rintro e9 w9 ⟨rfl, hb9⟩)
                    go_ret
                    exact ⟨rfl, HB3.out.trans (hb9.mono HB3.out.size)⟩
                  · have t3 : decide (n ≤ kn) = false := decide_eq_false h3
                    by_cases h4 : seq ≤ kb
                    · have t4 : decide (seq ≤ kb) = true := decide_eq_true h4
                      go_quiet (fail)
                      have hdr := below_drewN (Below.refl W2.heap.size W2) nq
                      have HB3 := Lib.hid (HW.out.trans ((HB2.out.trans (hdr.mono HB2.out.size)).mono HW.out.size))
                      clear hdr
                      go_wp2_with (go_at_call 30; (with_reducible refine (mlives_c _).mono ?_); rintro e9 w9 ⟨rfl, hb9⟩)
                      go_ret
                      exact ⟨rfl, HB3.out.trans (hb9.mono HB3.out.size)⟩
                    · have t4 : decide (seq ≤ kb) = false := decide_eq_false h4
                      go_quiet (fail)
                      have hdr := below_drewN (Below.refl W2.heap.size W2) nq
                      have HB3 := Lib.hid (HB2.out.trans (hdr.mono HB2.out.size))
                      have HOK := Lib.hid (HNX.out ⟨by show ka ≤ la; omega, by show kb ≤ lb; omega, by show kn < n; omega, by show (if (2 : Int) = 1 then ka else kb) < seq; simp; omega⟩)
                      clear hdr
                      go_wp2
                      go_roundw
                      case rel => exact ⟨k + 1, by omega, by go_num, HOK.out, HB3.out⟩
                      case measure => simp [intOf]; omega
          · obtain rfl : k = CS.length := by omega
            have HB2 := HBx
            have HB3 := HB2
            go_upto_region 11 with (fail)
            obtain ⟨W0, hW0⟩ : ∃ X, ({ wr with drawn := wr.drawn + 1 } : World) = X := ⟨_, rfl⟩
            have hd0 : Below wr.heap.size wr W0 := by rw [← hW0]; exact ⟨rfl, rfl, rfl, Nat.le_refl _, fun _ _ => rfl⟩
            have HW0 := Lib.hid (HWR.out.trans (hd0.mono HWR.out.size))
            have HQ0 := Lib.hid (heap_below HQR.out hd0)
            have HWX := Lib.hid hW0
            have HMAP := Lib.hid (show (CS ++ [(⟨site, seq, n, s, la, lb, .slice ua ws.length uc, ws⟩ : Cg)]).map Cg.ch = CS.map Cg.ch ++ [⟨site, seq, n, s, la, lb, ws⟩] by rw [List.map_append]; rfl)
            have HSTT := Lib.hid (fun h => st_st (gs := gs) (cs := CS.map Cg.ch ++ [⟨site, seq, n, s, la, lb, ws⟩]) h)
            have HRN := Lib.hid (fun h => st_none0 (gs := gs) (cs := CS.map Cg.ch ++ [⟨site, seq, n, s, la, lb, ws⟩]) h)
            have HKN := Lib.hid (fun h j hj => st_knows (gs := gs) (cs := CS.map Cg.ch) (l := ⟨site, seq, n, s, la, lb, ws⟩) h (fun c hc => by
              obtain ⟨c', hc', rfl⟩ := List.mem_map.1 hc
              obtain ⟨j, hj, rfl⟩ := List.getElem_of_mem hc'
              have h9 := HOLD.out j hj
              rw [List.getD_eq_getElem?_getD, List.getElem?_eq_getElem hj] at h9
              exact ⟨h9.1, h9.2.1, h9.2.2.1, h9.2.2.2⟩) (j := j) hj)
            obtain ⟨⟨R, KK⟩, hSS⟩ : ∃ z, stS gs (CS.map Cg.ch ++ [⟨site, seq, n, s, la, lb, ws⟩]) = z := ⟨_, rfl⟩
            rw [hSS] at HSTT HRN HKN
            have HSS := Lib.hid hSS
            clear hd0 hSS HOLD HB2
            refine wp_region_inv [none,none,none,none,none,none,none,none,none, some 11, some 12, none,none,none,none,none,none,none,none,none,none,none,none,none,none,none,none,none,none,none,none,none,none,none,none,none,none,none,none,none,none,none,none,none,none,none,none,none,none,none,none,none,none,none,none,none,none,none,none,none,none,none,none,none,none,none,none,none,none,none,none,none,none,none,none,none,none,none,none,none,none,none, some 8, some 0, some 1, some 2, some 3, some 4, some 5, some 6, some 7, some 9, some 10, none,none,none,none,none,none,none,none,none,none,none,none,none,none,none,none,none,none,none,none,none,none,none,none,none,none,none,none,none,none,none,none,none,none,none,none,none,none,none,none,none,none,none,none,none,none,none,none,none,none] (fun i => [undef,undef,undef,undef,undef,undef,undef,undef,undef,undef,undef,undef,undef].getD i undef) (InvK W0 (.slice x n1 cap) (.slice a CS.length cp) (⟨site, seq, n, s, la, lb, .slice ua ws.length uc, ws⟩ : Cg) CS 13 (StE R KK)) (by kernel_rfl) (by kernel_rfl) rfl rfl (fun L hL => InvK.start (by omega) hL (by rw [HWX.out]; exact Below.refl _ _)) ?_ ?_
            · simp only [invOps, and_true]
              refine ⟨?_,?_,?_,?_,?_,?_,?_,?_,?_,?_,?_,?_,?_⟩
              · intro L xs W hI hL hn
                simp only [flowAct, zwc, zwn]
                go_wp2_with (fail)
                exact ⟨rfl, _, rfl, hI.v0 rfl⟩
              · intro L xs W hI hL hn
                simp only [flowAct, zwc, zwn]
                go_wp2_with (fail)
                exact ⟨rfl, _, rfl, hI.mk1 hL StE.kept⟩
              · intro L xs W hI hL hn
                simp only [flowAct, zwc, zwn]
                go_wp2_with (fail)
                exact ⟨rfl, _, rfl, hI.v2 rfl⟩
              · intro L xs W hI hL hn
                simp [invNeeds, Region.binds] at hn
                obtain ⟨g1, e1, o1⟩ := hI.p1 (by simp only [hn]) hL
                have e2 := hI.m2 (by simp only [hn])
                have o2 := o1
                rw [e1] at o2
                have hlw := HL.out.below (HW0.out.trans (hI.bel.mono HW0.out.size))
                simp only [flowAct, zwc, zwn]
                simp only [e1, e2]
                go_wp2_with (at_builtin; refine wpList_append_cgsB rfl _ _ rfl rfl o2 rfl hlw (by simp; have := HM9.out; omega) hI.bel.size ?_; intro v' w' ho' hg' hb'; rw [← e1] at hg' hb')
                exact ⟨rfl, _, rfl, hI.app3 (by simp only [hn]) hL ho' hg' hb'⟩
              · intro L xs W hI hL hn
                obtain ⟨b0, b1, b2, b3, b4, b5, b6⟩ := ch_cells (heap_below HQ0.out hI.bel)
                simp only [flowAct, zwc, zwn]
                go_wp2_with (fail)
                exact ⟨rfl, _, rfl, hI.v4 rfl⟩
              · intro L xs W hI hL hn
                simp [invNeeds, Region.binds] at hn
                have e4 := hI.m4 hn
                simp only [flowAct, zwc, zwn]
                simp only [e4, Cg.arr]
                go_wp2_with (fail)
                exact ⟨rfl, _, rfl, hI.mk5 hL StE.kept⟩
              · intro L xs W hI hL hn
                simp [invNeeds, Region.binds] at hn
                have h3 : L 3 = true := by simp only [hn]
                have h5 : L 5 = true := by simp only [hn]
                have o3 := hI.p3 h3 hL
                obtain ⟨g5, e5, hb5, -,-⟩ := hI.p5 h5 hL
                have hone : ChsAt W (some ⟨g5, 0, none⟩) 1 1 [(⟨site, seq, n, s, la, lb, .slice ua ws.length uc, ws⟩ : Cg)] := chs_one hb5 (HWL.out.below (HW0.out.trans (hI.bel.mono HW0.out.size))) HWS.out
                simp only [flowAct, zwc, zwn]
                simp only [e5]
                go_wp2_with (at_builtin; refine wpList_append_cgsB (M := [(⟨site, seq, n, s, la, lb, .slice ua ws.length uc, ws⟩ : Cg)]) rfl _ _ rfl rfl o3 rfl hone (by simp; have := HM9.out; omega) hI.bel.size ?_; intro v' w' ho' hg' hb')
                exact ⟨rfl, _, rfl, hI.app6 h3 h5 hL ho' hg'⟩
              · intro L xs W hI hL hn
                simp [invNeeds, Region.binds] at hn
                have h0 : L 0 = true := by simp only [hn]
                have h6 : L 6 = true := by simp only [hn]
                have e0 := hI.m0 h0
                have o6 := hI.p6 h6
                obtain ⟨a6, c6, e6, hls⟩ := OwnL.ls (z := Cg.zero) cg_size o6
                have hbW := HW0.out.trans (hI.bel.mono HW0.out.size)
                have hch := chs_snoc HL.out HWL.out HWS.out hbW hls
                rw [List.length_append, List.length_singleton] at e6 hch
                have hms := mstate_c (HG.out.below hbW) HS.out hch (by omega)
                rw [HMAP.out, HSS.out] at hms
                have HMS := Lib.hid hms
                clear hls hch hms
                simp only [flowAct, zwc, zwn]
                simp only [e0, e6]
                go_wp2_with (go_at_call 44; (with_reducible refine HMS.out.mono ?_); rintro e9 w9 hp9; obtain ⟨v2, rfl, hv2, hb2⟩ := hp9.st; have HV2 := Lib.hid hv2; have HB2' := Lib.hid hb2; clear hv2 hb2 hp9)
                exact ⟨rfl, _, rfl, hI.more 7 (by decide) h6 HB2'.out (StE.mk7 HV2.out) StE.kept⟩
              · intro L xs W hI hL hn
                simp [invNeeds, Region.binds] at hn
                have h9 : L 7 = true := by simp only [hn]
                have h6 := hI.c7 7 (by decide) (by decide) h9
                have x9 := hI.ext 7 (by decide) (by decide) h9
                simp only [flowAct, zwc, zwn]
                go_wp2_with (fail)
                exact ⟨rfl, _, rfl, hI.more 8 (by decide) h6 (Below.refl _ _) (StE.mk8 (x9.1 (.inl rfl))) StE.kept⟩
              · intro L xs W hI hL hn
                simp [invNeeds, Region.binds] at hn
                have h9 : L 8 = true := by simp only [hn]
                have h6 := hI.c7 8 (by decide) (by decide) h9
                have x9 := hI.ext 8 (by decide) (by decide) h9
                obtain ⟨u, e8, hu⟩ := x9.1 (.inr rfl)
                simp only [flowAct, zwc, zwn]
                simp only [e8]
                go_wp2_with (fail)
                exact ⟨rfl, _, rfl, hI.more 9 (by decide) h6 (Below.refl _ _) (StE.mk9 hu) StE.kept⟩
              · intro L xs W hI hL hn
                simp [invNeeds, Region.binds] at hn
                have h9 : L 8 = true := by simp only [hn]
                have h6 := hI.c7 8 (by decide) (by decide) h9
                have x9 := hI.ext 8 (by decide) (by decide) h9
                obtain ⟨u, e8, hu⟩ := x9.1 (.inr rfl)
                simp only [flowAct, zwc, zwn]
                simp only [e8]
                go_wp2_with (fail)
                exact ⟨rfl, _, rfl, hI.more 10 (by decide) h6 (Below.refl _ _) StE.mk10 StE.kept⟩
              · intro L xs W hI hL hn
                simp [invNeeds, Region.binds] at hn
                have h9 : L 9 = true := by simp only [hn]
                have h6 := hI.c7 9 (by decide) (by decide) h9
                have x9 := hI.ext 9 (by decide) (by decide) h9
                simp only [flowAct, zwc, zwn]
                go_wp2_with (fail)
                exact ⟨rfl, _, rfl, hI.more 11 (by decide) h6 (Below.refl _ _) (StE.mk11 (x9.2.1 (.inl rfl))) StE.kept⟩
              · intro L xs W hI hL hn
                simp [invNeeds, Region.binds] at hn
                have h9 : L 10 = true := by simp only [hn]
                have h6 := hI.c7 10 (by decide) (by decide) h9
                have x9 := hI.ext 10 (by decide) (by decide) h9
                have e10 := x9.2.2 (.inl rfl)
                simp only [flowAct, zwc, zwn]
                simp only [e10]
                go_wp2_with (fail)
                exact ⟨rfl, _, rfl, hI.more 12 (by decide) h6 (Below.refl _ _) StE.mk12 StE.kept⟩
            · intro L xs W hI hall
              obtain ⟨aR, cR, NR, eR, hR, hpR⟩ := (hI.ext 11 (by decide) (by decide) (hall 11 (by decide))).2.1 (.inr rfl)
              have e12 := (hI.ext 12 (by decide) (by decide) (hall 12 (by decide))).2.2 (.inr rfl)
              simp only [flowAct, zwc, zwn]
              simp only [eR, e12]
              have hbel := hI.bel
              have HW5 := Lib.hid (HW0.out.trans (hbel.mono HW0.out.size))
              have HQ5 := Lib.hid (heap_below HQ0.out hbel)
              have HR := Lib.hid hR
              have HPR := Lib.hid hpR
              clear hall hbel hI eR e12 HW0 HQ0 HWX hW0 hR hpR
              by_cases hk0 : KK = 0
              · subst hk0
                have hst := HSTT.out rfl
                have HSH := Lib.hid (short_st hst HPR.out)
                have HMG := Lib.hid (mgood_iff.2 hst)
                have HGT := Lib.hid (fun W' (h : Below W.heap.size W W') (key : List UInt8) => (mget_c (HG.out.below (HW5.out.trans (h.mono HW5.out.size))) HS.out (HR.out.below h) HSH.out key).mono fun _ _ h => get_post h)
                rw [HPR.out] at HGT
                clear hst HSH
                obtain ⟨b0, b1, b2, b3, b4, b5, b6⟩ := ch_cells HQ5.out
                go_upto_region 14 with (fail)
                go_wp2
                clear b0 b1 b2 b3 b4 b5 b6
                go_loopw [104] (fun j9 wz => ∃ j : Nat, j ≤ ws.length ∧ j9 = .int .i64 (j : Int) ∧ Below W.heap.size W wz) (fun j9 _ => ws.length - (intOf j9).toNat)
                case atStart => exact ⟨0, by omega, rfl, Below.refl _ _⟩
                case round =>
                  obtain ⟨j, hj, rfl, hbx⟩ := hrel
                  have HBz := Lib.hid hbx
                  clear hbx
                  by_cases hjn : j < ws.length
                  · have hji : (j : Int) < (ws.length : Int) := by omega
                    have hle3 := HWL.out.le
                    have hmx3 := HWL.out.max
                    have hjc : (j : Int) < (uc : Int) := by omega
                    obtain ⟨bo, offo, rfl, hat⟩ := HWL.out.at hjn
                    obtain ⟨u, i, hlk, hwi, hil, hul, hsee, hgv, hrg⟩ := HKN.out (by first | rfl | trivial) j hjn
                    have hgp := mget_some HMG.out hlk
                    have hvf : (viewS gs (ws.getD j Wr.zero).k u).2.1 = fieldsN gs u gs.length := view_fs hrg
                    have hfs := knows_fields hil hsee hgv
                    rw [← hvf] at hfs
                    obtain ⟨y, hy⟩ : ∃ y, ws.getD j Wr.zero = y := ⟨_, rfl⟩
                    rw [hy] at hat hgp hvf hfs hwi
                    obtain ⟨kx, ix, gx, vx⟩ := y
                    simp only at hgp hfs hwi
                    subst hwi
                    obtain ⟨⟨vk, vf, vb⟩, hV⟩ : ∃ z, viewS gs kx u = z := ⟨_, rfl⟩
                    rw [hV] at hgp hfs
                    simp only at hfs
                    have hgt := HGT.out
                    have o0 : wr.cell? ⟨bo, offo + j * 4, none⟩ = some (.string (text kx)) := hat _ (HW5.out.trans (HBz.out.mono HW5.out.size)) 0 _ rfl
                    have o1 : wr.cell? ⟨bo, offo + j * 4 + 1, none⟩ = some (.int .i64 (i : Int)) := hat _ (HW5.out.trans (HBz.out.mono HW5.out.size)) 1 _ rfl
                    have o2 : wr.cell? ⟨bo, offo + j * 4 + 2, none⟩ = some (.bool gx) := hat _ (HW5.out.trans (HBz.out.mono HW5.out.size)) 2 _ rfl
                    have o3 : wr.cell? ⟨bo, offo + j * 4 + 3, none⟩ = some (.string (text vx)) := hat _ (HW5.out.trans (HBz.out.mono HW5.out.size)) 3 _ rfl
                    have hgk := fun W' h => hgt W' h kx
                    simp only [hgp] at hgk
                    obtain ⟨tk, htk⟩ : ∃ z, text kx = z := ⟨_, rfl⟩
                    obtain ⟨tv, htv⟩ : ∃ z, text vx = z := ⟨_, rfl⟩
                    rw [htk] at o0
                    rw [htv] at o3
                    simp only [htk] at hgk
                    unfold GetSPost at hgk
                    simp only at hgk
                    have HGK := Lib.hid hgk
                    have HFS := Lib.hid hfs
                    have HTV := Lib.hid htv
                    clear hat hgt hgk hgp hvf hfs hlk hil hul hsee hgv hrg hy htk htv hV
                    go_upto_region 17 with (fail)
                    have hal := alloc_below wr (.cells #[.string tk, .int .i64 (i : Int), .bool gx, .string tv] 94)
                    have hnew := heap_alloc_new wr (.cells #[.string tk, .int .i64 (i : Int), .bool gx, .string tv] 94)
                    have HB7 := Lib.hid (HBz.out.trans (hal.mono HBz.out.size))
                    obtain ⟨gw, hgw⟩ : ∃ z, wr.heap.size = z := ⟨_, rfl⟩
                    rw [hgw] at hnew ⊢
                    generalize wr.alloc (.cells #[.string tk, .int .i64 (i : Int), .bool gx, .string tv] 94) = W7 at *
                    have HN7 := Lib.hid hnew
                    clear hal hnew hgw o0 o1 o2 o3
                    obtain ⟨w0, w1, w2, w3⟩ := wrt_cells HN7.out
                    go_upto_region 18 with (go_at_call 38; (with_reducible refine (HGK.out _ HB7.out).mono ?_); rintro e9 w8 ⟨a8, c8, rfl, hf8, hb8⟩; have HF8 := Lib.hid hf8; have HB8 := Lib.hid (HB7.out.trans (hb8.mono HB7.out.size)); have HN8 := Lib.hid (heap_below HN7.out hb8); clear hf8 hb8)
                    have hal := alloc_below w8 (.cells #[.string (text vk), .slice a8 vf.length c8] 80)
                    have hnew := heap_alloc_new w8 (.cells #[.string (text vk), .slice a8 vf.length c8] 80)
                    have HB9 := Lib.hid (HB8.out.trans (hal.mono HB8.out.size))
                    have HN9 := Lib.hid (heap_below HN8.out hal)
                    have HF9 := Lib.hid (HF8.out.kept hal)
                    obtain ⟨gv, hgv⟩ : ∃ z, w8.heap.size = z := ⟨_, rfl⟩
                    rw [hgv] at hnew ⊢
                    clear w0 w1 w2 w3
                    generalize w8.alloc (.cells #[.string (text vk), .slice a8 vf.length c8] 80) = W9 at *
                    have HV9 := Lib.hid hnew
                    obtain ⟨v0, v1, -⟩ := view_cells hnew
                    have hfl : Flds W9 a8 vf.length c8 vf := by
                      obtain ⟨x1, y1, e1, h1, -⟩ := HF9.out
                      injection e1 with e1 _ e3
                      subst e1 e3
                      exact h1
                    have HFL := Lib.hid hfl
                    have hfle := hfl.le
                    have hfmx := hfl.max
                    clear hal hnew hgv hfl HF8 HN8 HB8 HN7 HB7 HGK
                    go_wp2
                    clear v0 v1
                    go_loopw [15, 16, 119] (fun sv tv9 j9 wy => ∃ q : Nat, q ≤ vf.length ∧ j9 = .int .i64 (q : Int) ∧ sv = .bool (fScan (i : Int) (vf.take q)).1 ∧ tv9 = .string (text (fScan (i : Int) (vf.take q)).2) ∧ Below W9.heap.size W9 wy) (fun _ _ j9 _ => vf.length - (intOf j9).toNat)
                    case atStart => exact ⟨0, by omega, rfl, rfl, rfl, Below.refl _ _⟩
                    case round =>
                      obtain ⟨q, hq, rfl, rfl, rfl, hby⟩ := hrel
                      have HBy := Lib.hid hby
                      have HN10 := Lib.hid (heap_below HN9.out hby)
                      clear hby
                      by_cases hqn : q < vf.length
                      · have hqi : (q : Int) < (vf.length : Int) := by omega
                        have hqc : (q : Int) < (c8 : Int) := by omega
                        have hsc := fScan_take (i : Int) vf q hqn
                        obtain ⟨bf, offf, rfl, hatf⟩ := HFL.out.at hqn
                        obtain ⟨⟨fg, fv⟩, hff⟩ : ∃ z, vf.getD q (0, []) = z := ⟨_, rfl⟩
                        rw [hff] at hatf hsc
                        simp only at hatf hsc
                        obtain ⟨f0, f1⟩ := hatf _ HBy.out
                        obtain ⟨tf, htf⟩ : ∃ z, text fv = z := ⟨_, rfl⟩
                        rw [htf] at f1
                        have HSC := Lib.hid hsc
                        have HTF := Lib.hid htf
                        clear hatf hsc hff htf
                        go_upto_region 22 with (fail)
                        have hal := alloc_below wr (.cells #[.int .i64 fg, .string tf] 96)
                        have hnew := heap_alloc_new wr (.cells #[.int .i64 fg, .string tf] 96)
                        have HB11 := Lib.hid (HBy.out.trans (hal.mono HBy.out.size))
                        have HN11 := Lib.hid (heap_below HN10.out hal)
                        obtain ⟨gf, hgf⟩ : ∃ z, wr.heap.size = z := ⟨_, rfl⟩
                        rw [hgf] at hnew ⊢
                        generalize wr.alloc (.cells #[.int .i64 fg, .string tf] 96) = W11 at *
                        have x0 : W11.cell? ⟨gf, 0, none⟩ = some (.int .i64 fg) := by rw [cell_of_row _ gf 0 _ _ (0, 0) hnew]; rfl
                        have x1 : W11.cell? ⟨gf, 1, none⟩ = some (.string tf) := by rw [cell_of_row _ gf 1 _ _ (0, 0) hnew]; rfl
                        obtain ⟨w0, w1, w2, w3⟩ := wrt_cells HN11.out
                        clear hal hnew hgf f0 f1 HBy HN10
                        by_cases hfg : fg = (i : Int)
                        · subst hfg
                          have HS9 := Lib.hid (show fScan (i : Int) (vf.take (q + 1)) = (true, fv) by rw [HSC.out, if_pos rfl])
                          go_upto_region 23 with (fail)
                          go_quiet (fail)
                          have hdr := below_drewN (Below.refl W11.heap.size W11) nq
                          have HB12 := Lib.hid (HB11.out.trans (hdr.mono HB11.out.size))
                          clear hdr
                          go_wp2
                          go_roundw
                          case rel => exact ⟨q + 1, by omega, by go_num, by rw [HS9.out], by rw [HS9.out, HTF.out], HB12.out⟩
                          case measure => simp [intOf]; omega
                        · have hfe : (fg == (i : Int)) = false := by simpa using hfg
                          have HS9 := Lib.hid (show fScan (i : Int) (vf.take (q + 1)) = fScan (i : Int) (vf.take q) by rw [HSC.out, if_neg hfg])
                          go_wp2
                          go_roundw
                          case rel => exact ⟨q + 1, by omega, by go_num, by rw [HS9.out], by rw [HS9.out], HB11.out⟩
                          case measure => simp [intOf]; omega
                      · obtain rfl : q = vf.length := by omega
                        have hfin := HFS.out
                        rw [List.take_length, hfin]
                        simp only [HTV.out]
                        obtain ⟨w0, w1, w2, w3⟩ := wrt_cells HN10.out
                        have hgg : (!gx == gx) = false := by cases gx <;> rfl
                        have htt : (tv.toList == tv.toList) = true := by simp
                        have HB13 := Lib.hid (HB9.out.trans (HBy.out.mono HB9.out.size))
                        clear hfin
                        go_wp2
                        go_roundw
                        case rel => exact ⟨j + 1, by omega, by go_num, HB13.out⟩
                        case measure => simp [intOf]; omega
                  · obtain rfl : j = ws.length := by omega
                    go_wp2_with (go_at_call 30; (with_reducible refine (mlives_c _).mono ?_); rintro e9 w9 ⟨rfl, hb9⟩)
                    go_ret
                    exact ⟨rfl, HW5.out.trans ((HBz.out.trans (hb9.mono HBz.out.size)).mono HW5.out.size)⟩
              · have hRN : R = [] := HRN.out hk0
                have hNR : NR.length = 0 := by rw [← List.length_map (f := Rw.pr), HPR.out, hRN]; rfl
                rw [hNR]
                have hkb : (KK != 0) = true := by simpa using hk0
                go_wp2_with (go_at_call 30; (with_reducible refine (mlives_c _).mono ?_); rintro e9 w9 ⟨rfl, hb9⟩)
                go_ret
                exact ⟨rfl, HW5.out.trans (hb9.mono HW5.out.size)⟩
      · obtain hs3 : site < 1 ∨ 2 < site := by omega
        rcases hs3 with hs3 | hs3
        · go_wp2_with (go_at_call 30; (with_reducible refine (mlives_c _).mono ?_); rintro e9 w9 ⟨rfl, hb9⟩)
          go_ret
          exact ⟨rfl, HW.out.trans (hb9.mono HW.out.size)⟩
        · have hs4 : ¬ site < 1 := by omega
          go_wp2_with (go_at_call 30; (with_reducible refine (mlives_c _).mono ?_); rintro e9 w9 ⟨rfl, hb9⟩)
          go_ret
          exact ⟨rfl, HW.out.trans (hb9.mono HW.out.size)⟩
end Go.Proofs.Ytidbjmkfmfojdaa
end

