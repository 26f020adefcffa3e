/-
  Merged: V0 DJ ED IE IF.
-/
import Derived.Deep.QuietTactic
import Derived.StillTail
import Derived.Lib.QuietBelow
import Derived.Test.YtjkifdjjcfempaaDoorRows
import Derived.WalkKit
import Derived.Lib.Hide
import Derived.BigQuiet
import Derived.BigRegion
import Derived.Deep.Cut
import Derived.Deep.MidRow
import Derived.Great.BuildSlice
import Derived.Outline
import Derived.OwnWalk
import Derived.Laws.Rows
import Derived.ChangeKeysEq
import Derived.Laws.StructEq
import Derived.WalkSpells
import Derived.WalkLawsBesides
import Derived.Laws.CopyOwn
import Derived.WalkSmall
import Derived.Lib.LaidTab
import Derived.Deep.RegionWith
import Derived.Lib.MinMax
import Derived.WideShapes
import Derived.ChangeSame
import Derived.OpenShut
import Derived.Deep.Slices
import Derived.Deep.AppendSrc
import Derived.Lib.AppendZerosOnto
import Derived.Lib.SliceRun
import Derived.Lib.Walk
import Derived.Lib.OthersKept
import Derived.Laws.RangeAny
import Derived.Maps.OwnOps
import Derived.Maps.Views
import Derived.ChangeSlices
import Derived.ChangeArms
import Derived.Deep.DeepAppendWide
import Derived.OrdersIn
import Derived.TacticsIn
import Derived.RangeFuncNested
import Derived.RangeFuncBound
import Derived.RangeFuncCalls
import Derived.RangeFuncLeaves
import Derived.Maps.AppendAt
import Derived.Shelf.Abstract
import Derived.OwnWalkIn
import Derived.TacticsInMore
import Derived.LoopNIn
import Derived.LoopIn
import Derived.DeepKeys4
import Derived.Maps.Own
import Derived.Maps.Range
import Derived.Sort.Grow
import Derived.Shelf.SlSortCmp.WholeK
import Derived.Sort.MapsRangeIn
import Derived.Shelf.Small.Bits
import Derived.Test.YtjkifdjjcfempaaDoorProg
import Derived.Test.YtjkifdjjcfempaaDoorSD1

section
namespace Go.Proofs.YtjkifdjjcfempaaDoor
open Go.RowKit Go Go.Sort
set_option linter.unusedVariables false

theorem Pair.fz {W : World} {g : Nat} {t : TypeId} {a b : Int} (h : Pair W g t a b) (i : Nat) : W.frozen? ⟨g, i, none⟩ = false := frozen_of_row W g i _ t h
end Go.Proofs.YtjkifdjjcfempaaDoor
end

section
namespace Go.Proofs.YtjkifdjjcfempaaDoor
open Go Go.RowKit
set_option linter.unusedVariables false

section
variable {P : Program} {ops : Array Oper} {md : Region.Mode}

/-- How one operation ends: the invariant holds with it. -/
def InvEnd (Inv : (Nat → Bool) → (Nat → Value) → World → Prop) (a : Act) (o : Oper) (i : Nat) (L : Nat → Bool) (xs : Nat → Value) (e : Exit) (a' : Act) (w' : World) : Prop :=
  e = .normal ∧ ∃ v, a' = a.put o.dst v ∧ Inv (fun j => if j = i then true else L j) (fun j => if j = i then v else xs j) w'

theorem wpAny_inv {Q : Exit → Act → World → Prop} (act : (Nat → Value) → Act) (Inv : (Nat → Bool) → (Nat → Value) → World → Prop)
    (hwf : ∀ i o, ops[i]? = some o → ∀ e ∈ o.after, Region.binds md e = true → e.on < i)
    (hput : ∀ i o xs v, ops[i]? = some o → (act xs).put o.dst v = act (fun j => if j = i then v else xs j))
    (hop : ∀ i o, ops[i]? = some o → ∀ L xs w, Inv L xs w → L i = false → (∀ e ∈ o.after, Region.binds md e = true → L e.on = true) → wpList P ops (InvEnd Inv (act xs) o i L xs) [o] (act xs) w)
    (hend : ∀ L xs w, Inv L xs w → (∀ i, i < ops.size → L i = true) → Q .normal (act xs) w) :
    ∀ (f : Nat) (listed : Array Bool) (xs : Nat → Value) (w : World), Inv (fun i => listed.getD i true) xs w → listed.size = ops.size → listed.toList.count false ≤ f → wpAny P md ops Q f listed (act xs) w := by
  have hnone : ∀ (listed : Array Bool), listed.size = ops.size → Region.ready md ops listed = [] → ∀ i, i < ops.size → listed.getD i true = true := by
    intro listed hs hr i
    induction i using Nat.strongRecOn with
    | _ i ih =>
      intro hi
      cases hl : listed.getD i true with
      | true => rfl
      | false =>
        have : i ∈ Region.ready md ops listed := by
          refine mem_ready.2 ⟨hl, ops[i], by simp [hi], fun e he hb => ?_⟩
          have hlt := hwf i ops[i] (by simp [hi]) e he hb
          have h1 := ih e.on hlt (by omega)
          have h2 : e.on < listed.size := by omega
          simp only [Array.getD_eq_getD_getElem?, Array.getElem?_eq_getElem h2, Option.getD_some] at h1 ⊢
          exact h1
        rw [hr] at this
        cases this
  intro f
  induction f with
  | zero =>
    intro listed xs w hI hs hc
    have hall : ∀ i, i < ops.size → listed.getD i true = true := by
      intro i hi
      cases hl : listed.getD i true with
      | true => rfl
      | false =>
        have h2 : i < listed.size := by omega
        have h3 : listed[i] = false := by simpa [Array.getD_eq_getD_getElem?, Array.getElem?_eq_getElem h2] using hl
        have : false ∈ listed.toList := by rw [← h3]; simp
        have := List.count_pos_iff.2 this
        omega
    refine ⟨?_, hend _ xs w hI hall⟩
    cases hr : Region.ready md ops listed with
    | nil => rfl
    | cons i r =>
      have hm : i ∈ Region.ready md ops listed := by rw [hr]; simp
      obtain ⟨hun, o, ho, _⟩ := mem_ready.1 hm
      have := hall i (Array.getElem?_eq_some_iff.1 ho).1
      rw [hun] at this
      cases this
  | succ f ih =>
    intro listed xs w hI hs hc
    refine ⟨fun hr => hend _ xs w hI (hnone listed hs hr), fun i hi => ?_⟩
    obtain ⟨hun, o, ho, hall⟩ := mem_ready.1 hi
    have hilt := (Array.getElem?_eq_some_iff.1 ho).1
    have h2 : i < listed.size := by omega
    refine wpOp_of_one ho (fun a' w' h => ?_) (fun e a' w' h => h.1) (hop i o ho _ xs w hI hun fun e he hb => ?_)
    · obtain ⟨_, v, rfl, hI'⟩ := h
      rw [hput i o xs v ho]
      refine ih _ _ w' ?_ (by simpa using hs) ?_
      · have hfe : (fun j => (listed.setIfInBounds i true).getD j true) = (fun j => if j = i then true else listed.getD j true) := by
          funext j
          by_cases hji : j = i
          · subst hji
            simp [Array.getD_eq_getD_getElem?, h2]
          · rw [getD_set_ne true (Ne.symm hji), if_neg hji]
        rw [hfe]
        exact hI'
      · have h3 : listed[i] = false := by simpa [Array.getD_eq_getD_getElem?, Array.getElem?_eq_getElem h2] using hun
        have := count_set_lt listed.toList i (by simp [h2, h3])
        rw [Array.toList_setIfInBounds]
        omega
    · have h1 := hall e he hb
      have h3 : e.on < listed.size := by have := hwf i o ho e he hb; omega
      simp only [Array.getD_eq_getD_getElem?, Array.getElem?_eq_getElem h3, Option.getD_some] at h1 ⊢
      exact h1

def invNeeds (md : Region.Mode) (L : Nat → Bool) : List Edge → Prop
  | [] => True
  | e :: l => (Region.binds md e = true → L e.on = true) ∧ invNeeds md L l
theorem invNeeds_of {L : Nat → Bool} : ∀ (l : List Edge), (∀ e ∈ l, Region.binds md e = true → L e.on = true) → invNeeds md L l
  | [], _ => trivial
  | e :: l, h => ⟨h e (by simp), invNeeds_of l fun e' he => h e' (by simp [he])⟩
def invOps (P : Program) (md : Region.Mode) (ops : Array Oper) (a : Act) (srcs : List (Option Nat)) (Inv : (Nat → Bool) → (Nat → Value) → World → Prop) : List Oper → Nat → Prop
  | [], _ => True
  | o :: l, k => (∀ L xs w, Inv L xs w → L k = false → invNeeds md L o.after.toList → wpList P ops (InvEnd Inv (flowAct a srcs xs) o k L xs) [o] (flowAct a srcs xs) w) ∧ invOps P md ops a srcs Inv l (k + 1)
theorem invOps_get {a : Act} {srcs : List (Option Nat)} {Inv : (Nat → Bool) → (Nat → Value) → World → Prop} : ∀ (l : List Oper) (k : Nat), invOps P md ops a srcs Inv l k → ∀ i o, l[i]? = some o →
    ∀ L xs w, Inv L xs w → L (k + i) = false → invNeeds md L o.after.toList → wpList P ops (InvEnd Inv (flowAct a srcs xs) o (k + i) L xs) [o] (flowAct a srcs xs) w
  | [], _, _, i, o, h => by simp at h
  | o' :: l, k, hh, 0, o, h => by
    obtain rfl : o' = o := by simpa using h
    exact hh.1
  | o' :: l, k, hh, i + 1, o, h => by
    have := invOps_get l (k + 1) hh.2 i o (by simpa using h)
    rwa [show k + 1 + i = k + (i + 1) by omega] at this
theorem wp_region_inv {id : Nat} {Q : Exit → Act → World → Prop} {l : List Oper} {a : Act} {w : World} (srcs : List (Option Nat)) (xs0 : Nat → Value) (Inv : (Nat → Bool) → (Nat → Value) → World → Prop) (hm : P.follows .mixedOrders = true)
    (hB : flowB .any l.toArray srcs = true) (hl : a.tmps.size = srcs.length) (h0 : flowAct a srcs xs0 = a)
    (hI0 : ∀ L, (∀ i, i < l.length → L i = false) → Inv L xs0 { w with drawn := w.drawn + 1 })
    (hops : invOps P .any l.toArray a srcs Inv l 0)
    (hend : ∀ L xs w', Inv L xs w' → (∀ i, i < l.length → L i = true) → Q .normal (flowAct a srcs xs) w') : (Code.region id l.toArray true).wp P Q a w := by
  refine wp_region_any hm ?_
  have := wpAny_inv (P := P) (ops := l.toArray) (md := .any) (Q := Q) (flowAct a srcs) Inv
    (fun i o ho => (flowB_spec hB ho).1) (fun i o xs v ho => flowAct_put hB hl ho xs v)
    (fun i o ho L xs x hI hL hn => by
      have := invOps_get l 0 hops i o (by simpa using ho) L xs x hI (by rwa [Nat.zero_add]) (invNeeds_of _ fun e he hb => hn e (by simpa using he) hb)
      rwa [Nat.zero_add] at this)
    (fun L xs x hI hL => hend L xs x hI (fun i hi => hL i (by simpa using hi)))
    l.toArray.size (Array.replicate l.toArray.size false) xs0 { w with drawn := w.drawn + 1 } (hI0 _ fun i hi => by
      rw [Array.getD_eq_getD_getElem?, Array.getElem?_eq_getElem (by simpa using hi)]; simp) (by simp) (by simp)
  rwa [h0] at this
end
end Go.Proofs.YtjkifdjjcfempaaDoor
end

section
namespace Go.Proofs.YtjkifdjjcfempaaDoor
open Go.RowKit Go Go.Sort
set_option linter.unusedVariables false
set_option maxRecDepth 20000

section
variable {m n : Nat} {ty : TypeId} {z : Array Value} {G : Nat → Value → World → Prop} {sr : Nat → Nat} {w0 w : World} {L : Nat → Bool} {xs : Nat → Value}
theorem LayG.start (h : ∀ i, i < m + n + n → L i = false) : LayG m n ty z G sr w0 L xs { w0 with drawn := w0.drawn + 1 } := by
  have f : ∀ i, i < m + n + n → L i = true → False := fun i hi ht => by rw [h i hi] at ht; cases ht
  exact ⟨⟨rfl, rfl, rfl, Nat.le_refl _, fun _ _ => rfl⟩, fun i hi ht => (f i (by omega) ht).elim, fun j hj ht => (f _ (by omega) ht).elim, fun j k hj hk _ ht _ => (f _ (by omega) ht).elim, fun j hj ht => (f _ (by omega) ht).elim⟩
end
end Go.Proofs.YtjkifdjjcfempaaDoor
end

section
namespace Go.Proofs.YtjkifdjjcfempaaDoor
open Go.RowKit Go Go.Sort
set_option linter.unusedVariables false
set_option maxRecDepth 20000

theorem take_cellW {cur : Array Value} {cs : List Wr} (ht : cur.toList.take (cs.length * 4) = lCells Wr.arr cs) {j : Nat} (hj : j < cs.length * 4) : cur[j]? = (lCells Wr.arr cs)[j]? := by
  rw [← ht, List.getElem?_take, if_pos hj]
  simp
theorem own_putW {W : World} {B g m c k : Nat} {cs : List Wr} (h : OwnW W B (.slice (some ⟨g, 0, none⟩) m c) cs) (hk : k < cs.length) (n9 : List UInt8) (s9 : Int) (a9 : Bool) (b9 : List UInt8) :
    OwnW (((((W.setCell ⟨g, k * 4, none⟩ (.string (text n9))).setCell ⟨g, k * 4 + 1, none⟩ (.int .i64 s9)).setCell ⟨g, k * 4 + 2, none⟩ (.bool a9)).setCell ⟨g, k * 4 + 3, none⟩ (.string (text b9)))) B (.slice (some ⟨g, 0, none⟩) m c) (cs.set k ⟨n9, s9, a9, b9⟩) := by
  obtain ⟨hlen, ⟨ev, -⟩ | ⟨g', cap, cur, ev, hB, hg, hnc, hcm, hcs, htake⟩⟩ := h
  · cases ev
  · injection ev with e1 e2 e3
    injection e1 with e1
    injection e1 with e1
    subst e1 e2 e3
    have h0 := heap_setCell_same W g (k * 4) _ _ (.string (text n9)) hg
    have h1 := heap_setCell_same _ g (k * 4 + 1) _ _ (.int .i64 s9) h0
    have h2 := heap_setCell_same _ g (k * 4 + 2) _ _ (.bool a9) h1
    have h3 := heap_setCell_same _ g (k * 4 + 3) _ _ (.string (text b9)) h2
    have hl2 : (cs.set k (⟨n9, s9, a9, b9⟩ : Wr)).length = cs.length := List.length_set
    refine ⟨by rw [lCells_length wr_size], .inr ⟨g, c, _, by rw [hl2], hB, h3, by rw [hl2]; exact hnc, hcm, by simpa using hcs, ?_⟩⟩
    rw [hl2]
    apply List.ext_getElem?
    intro j
    have hcl := lCells_length (arr := Wr.arr) wr_size cs
    have hcl2 := lCells_length (arr := Wr.arr) wr_size (cs.set k ⟨n9, s9, a9, b9⟩)
    rw [hl2] at hcl2
    rw [List.getElem?_take]
    by_cases hj : j < cs.length * 4
    · rw [if_pos hj]
      have hc := take_cellW htake hj
      have hsz : cs.length * 4 ≤ cur.size := by
        have h9 := congrArg List.length htake
        rw [List.length_take, hcl] at h9
        simp at h9
        omega
      simp only [Array.getElem?_toList, Array.getElem?_setIfInBounds, Array.size_setIfInBounds]
      have hd : j / 4 < cs.length := by omega
      have hm : j % 4 < 4 := Nat.mod_lt _ (by omega)
      have e8 : j / 4 * 4 + j % 4 = j := by omega
      have g1 := lCells_get (z := Wr.zero) wr_size cs (j / 4) (j % 4) hd hm
      have g2 := lCells_get (z := Wr.zero) wr_size (cs.set k ⟨n9, s9, a9, b9⟩) (j / 4) (j % 4) (by rw [hl2]; exact hd) hm
      rw [e8] at g1 g2
      rw [g2, hc, g1]
      obtain ⟨r, hr⟩ : ∃ r, j % 4 = r := ⟨_, rfl⟩
      rw [hr] at hm e8 ⊢
      by_cases hq : j / 4 = k
      · rw [hq] at e8 ⊢
        have e9 : (cs.set k (⟨n9, s9, a9, b9⟩ : Wr)).getD k Wr.zero = ⟨n9, s9, a9, b9⟩ := by simp [hk]
        rw [e9]
        subst e8
        have hk8 : k * 4 + 3 < cs.length * 4 := by omega
        rcases (by omega : r = 0 ∨ r = 1 ∨ r = 2 ∨ r = 3) with rfl | rfl | rfl | rfl
        all_goals
          repeat rw [if_neg (by omega)]
          rw [if_pos (by omega), if_pos (by omega)]
          rfl
      · have e9 : (cs.set k (⟨n9, s9, a9, b9⟩ : Wr)).getD (j / 4) Wr.zero = cs.getD (j / 4) Wr.zero := by
          simp only [List.getD_eq_getElem?_getD, List.getElem?_set]
          rw [if_neg (fun e => hq e.symm)]
        rw [e9]
        repeat rw [if_neg (by omega)]
    · rw [if_neg hj, List.getElem?_eq_none (by omega)]

theorem put4_below {w W : World} {B g k : Nat} (hb : Below B w W) (hg : B ≤ g) (a b c d : Value) : Below B w ((((W.setCell ⟨g, k * 4, none⟩ a).setCell ⟨g, k * 4 + 1, none⟩ b).setCell ⟨g, k * 4 + 2, none⟩ c).setCell ⟨g, k * 4 + 3, none⟩ d) :=
  (((hb.setCell (p := ⟨g, k * 4, none⟩) hg a).setCell (p := ⟨g, k * 4 + 1, none⟩) hg b).setCell (p := ⟨g, k * 4 + 2, none⟩) hg c).setCell (p := ⟨g, k * 4 + 3, none⟩) hg d
/-- Two neighbours change places: nothing changes for Canon, where they are of two places. -/
theorem swap_canon {l : List Wr} {k : Nat} (hk : k + 1 < l.length) (hp : (l.getD k Wr.zero).pl ≠ (l.getD (k + 1) Wr.zero).pl) : canonS ((l.set k (l.getD (k + 1) Wr.zero)).set (k + 1) (l.getD k Wr.zero)) = canonS l := by
  have hx : l = l.take k ++ l.getD k Wr.zero :: l.getD (k + 1) Wr.zero :: l.drop (k + 2) := by
    apply List.ext_getElem?
    intro i
    rw [List.getElem?_append]
    have hl : (l.take k).length = k := by rw [List.length_take]; omega
    rw [hl]
    by_cases h1 : i < k
    · rw [if_pos h1, List.getElem?_take_of_lt h1]
    · rw [if_neg h1]
      by_cases h2 : i = k
      · subst h2
        simp [List.getD_eq_getElem?_getD, List.getElem?_eq_getElem (show i < l.length by omega)]
      · by_cases h3 : i = k + 1
        · subst h3
          rw [show k + 1 - k = 1 by omega]
          simp [List.getD_eq_getElem?_getD, List.getElem?_eq_getElem hk]
        · obtain ⟨j, rfl⟩ : ∃ j, i = k + 2 + j := ⟨i - (k + 2), by omega⟩
          rw [show k + 2 + j - k = j + 2 by omega]
          simp
  obtain ⟨p, hpp⟩ : ∃ p, l.take k = p := ⟨_, rfl⟩
  obtain ⟨s, hss⟩ : ∃ s, l.drop (k + 2) = s := ⟨_, rfl⟩
  obtain ⟨a, ha⟩ : ∃ a, l.getD k Wr.zero = a := ⟨_, rfl⟩
  obtain ⟨b, hb⟩ : ∃ b, l.getD (k + 1) Wr.zero = b := ⟨_, rfl⟩
  have hlp : p.length = k := by rw [← hpp, List.length_take]; omega
  rw [hpp, hss, ha, hb] at hx
  rw [ha, hb] at hp ⊢
  rw [hx, canon_swap p s hp]
  congr 1
  rw [List.set_append, if_neg (by omega), hlp, Nat.sub_self, List.set_cons_zero, List.set_append, if_neg (by omega), hlp, show k + 1 - k = 1 by omega]
  rfl
end Go.Proofs.YtjkifdjjcfempaaDoor
end

section
namespace Go.Proofs.YtjkifdjjcfempaaDoor
open Go.RowKit Go Go.Sort
set_option linter.unusedVariables false
set_option maxRecDepth 20000

theorem pick_at2 (z : Int) {m : Nat} (hm : 0 < m) (h6 : m ≤ 600) : ∃ q : Nat, wrap64 ((IntKind.u64.wrap z).tmod (m : Int)) = (q : Int) ∧ q < m := by
  have e : IntKind.u64.wrap z = z % 18446744073709551616 := by simp [IntKind.wrap, IntKind.signed, IntKind.bits]
  rw [e]
  have h0 : 0 ≤ z % 18446744073709551616 := Int.emod_nonneg _ (by decide)
  rw [Int.tmod_eq_emod_of_nonneg h0]
  have h1 := Int.emod_nonneg (z % 18446744073709551616) (show (m : Int) ≠ 0 by omega)
  have h2 := Int.emod_lt_of_pos (z % 18446744073709551616) (show (0 : Int) < (m : Int) by omega)
  obtain ⟨q, hq⟩ := Int.eq_ofNat_of_zero_le h1
  refine ⟨q, ?_, by omega⟩
  rw [hq] at h2 ⊢
  have h3 : (q : Int) < m := h2
  unfold wrap64
  omega
theorem own_someW {W : World} {B m c : Nat} {a : Option Addr} {l : List Wr} (h : OwnW W B (.slice a m c) l) (hp : 0 < l.length) : ∃ g, a = some ⟨g, 0, none⟩ ∧ B ≤ g ∧ g < W.heap.size := by
  obtain ⟨hlen, ⟨ev, hn⟩ | ⟨g', cap, cur, ev, hB, hg, hnc, hcm, hcs, htake⟩⟩ := h
  · omega
  · injection ev with e1 e2 e3
    exact ⟨g', e1, hB, (Array.getElem?_eq_some_iff.1 hg).1⟩
theorem wrs_at {w : World} {g m cap : Nat} {l : List Wr} (h : Wrs w (some ⟨g, 0, none⟩) m cap l) {k : Nat} (hk : k < m) : ∀ W, Below w.heap.size w W → W.cell? ⟨g, k * 4, none⟩ = some (.string (text (l.getD k Wr.zero).k)) ∧ W.cell? ⟨g, k * 4 + 1, none⟩ = some (.int .i64 (l.getD k Wr.zero).i) ∧ W.cell? ⟨g, k * 4 + 2, none⟩ = some (.bool (l.getD k Wr.zero).g) ∧ W.cell? ⟨g, k * 4 + 3, none⟩ = some (.string (text (l.getD k Wr.zero).v)) := by
  intro W hW
  obtain ⟨bl, off, ea, hat⟩ := Wrs.place h hk
  injection ea with ea
  injection ea with e1 e2 _
  subst e1 e2
  have h2 := hat W hW
  simp only [Nat.zero_add] at h2
  exact h2
theorem own_atW {W : World} {B g m c : Nat} {l : List Wr} (h : OwnW W B (.slice (some ⟨g, 0, none⟩) m c) l) {k : Nat} (hk : k < l.length) : ∀ W', Below W.heap.size W W' → W'.cell? ⟨g, k * 4, none⟩ = some (.string (text (l.getD k Wr.zero).k)) ∧ W'.cell? ⟨g, k * 4 + 1, none⟩ = some (.int .i64 (l.getD k Wr.zero).i) ∧ W'.cell? ⟨g, k * 4 + 2, none⟩ = some (.bool (l.getD k Wr.zero).g) ∧ W'.cell? ⟨g, k * 4 + 3, none⟩ = some (.string (text (l.getD k Wr.zero).v)) := by
  obtain ⟨a, cap, ev, hw⟩ := OwnL.wrs h
  injection ev with e1 e2 e3
  subst e1 e3
  exact wrs_at hw hk
theorem own_frozen {W : World} {B g m c : Nat} {l : List Wr} (h : OwnW W B (.slice (some ⟨g, 0, none⟩) m c) l) (hp : 0 < l.length) : ∀ i, W.frozen? ⟨g, i, none⟩ = false := by
  obtain ⟨hlen, ⟨ev, hn⟩ | ⟨g', cap, cur, ev, hB, hg, hnc, hcm, hcs, htake⟩⟩ := h
  · omega
  · injection ev with e1 e2 e3
    injection e1 with e1
    injection e1 with e1
    subst e1
    exact fun i => frozen_of_row _ g i _ _ hg
theorem wrap_small {x : Int} (h : -9223372036854775808 ≤ x) (h2 : x ≤ 9223372036854775807) : IntKind.i64.wrap x = x := by
  simp [IntKind.wrap, IntKind.signed, IntKind.bits]
  omega
theorem wrap_smallu {x : Int} (h : 0 ≤ x) (h2 : x ≤ 9223372036854775807) : IntKind.u64.wrap x = x := by
  simp [IntKind.wrap, IntKind.signed, IntKind.bits]
  omega
/-- Where the two stores stand: 15, then 17; the loads 9 and 13 ahead of both. -/
structure InvW (V : Nat → Value) (R0 R1 R2 : World → Prop) (L : Nat → Bool) (xs : Nat → Value) (W : World) : Prop where
  at' : ∀ i, i < 18 → L i = true → i ≠ 15 → i ≠ 17 → xs i = V i
  r0 : L 15 = false → R0 W
  r1 : L 15 = true → L 17 = false → R1 W
  r2 : L 17 = true → R2 W
  d9 : L 15 = true → L 9 = true
  d13 : L 15 = true → L 13 = true
  d15 : L 17 = true → L 15 = true
section
variable {V : Nat → Value} {R0 R1 R2 : World → Prop} {L : Nat → Bool} {xs : Nat → Value} {W W' : World}
theorem InvW.start (h : ∀ i, i < 18 → L i = false) (hr : R0 W) : InvW V R0 R1 R2 L xs W :=
  ⟨fun i hi hL _ _ => (by rw [h i hi] at hL; cases hL), fun _ => hr, fun hL => (by rw [h 15 (by omega)] at hL; cases hL), fun hL => (by rw [h 17 (by omega)] at hL; cases hL), fun hL => (by rw [h 15 (by omega)] at hL; cases hL), fun hL => (by rw [h 15 (by omega)] at hL; cases hL), fun hL => (by rw [h 17 (by omega)] at hL; cases hL)⟩
theorem InvW.val (h : InvW V R0 R1 R2 L xs W) (i : Nat) (hi : i ≠ 15 ∧ i ≠ 17) {v : Value} (hv : v = V i) : InvW V R0 R1 R2 (fun j => if j = i then true else L j) (fun j => if j = i then v else xs j) W := by
  have e15 : (if 15 = i then true else L 15) = L 15 := if_neg (Ne.symm hi.1)
  have e17 : (if 17 = i then true else L 17) = L 17 := if_neg (Ne.symm hi.2)
  refine ⟨fun j hj hL h1 h2 => ?_, fun hL => h.r0 (by rw [← e15]; exact hL), fun hL h2 => h.r1 (by rw [← e15]; exact hL) (by rw [← e17]; exact h2), fun hL => h.r2 (by rw [← e17]; exact hL), fun hL => ?_, fun hL => ?_, fun hL => ?_⟩
  · by_cases e : j = i
    · subst e; simpa using hv
    · simp only [if_neg e] at hL ⊢; exact h.at' j hj hL h1 h2
  · have := h.d9 (by rw [← e15]; exact hL)
    simp [this]
  · have := h.d13 (by rw [← e15]; exact hL)
    simp [this]
  · have := h.d15 (by rw [← e17]; exact hL)
    simp [this]
theorem InvW.early (h : InvW V R0 R1 R2 L xs W) (h9 : L 9 = false ∨ L 13 = false) : R0 W := h.r0 (by
  cases h15 : L 15 with
  | false => rfl
  | true =>
    rcases h9 with e | e
    · rw [h.d9 h15] at e; cases e
    · rw [h.d13 h15] at e; cases e)
theorem InvW.st15 (h : InvW V R0 R1 R2 L xs W) (h15 : L 15 = false) (h9 : L 9 = true) (h13 : L 13 = true) (hr : R1 W') (v : Value) : InvW V R0 R1 R2 (fun j => if j = 15 then true else L j) (fun j => if j = 15 then v else xs j) W' :=
  ⟨fun j hj hL h1 h2 => by simp only [if_neg h1] at hL ⊢; exact h.at' j hj hL h1 h2, fun hL => (by simp at hL), fun _ _ => hr, fun hL => (by have := h.d15 (by simpa using hL); rw [h15] at this; cases this), fun _ => by simpa using h9, fun _ => by simpa using h13, fun _ => by simp⟩
theorem InvW.st17 (h : InvW V R0 R1 R2 L xs W) (h15 : L 15 = true) (hr : R2 W') (v : Value) : InvW V R0 R1 R2 (fun j => if j = 17 then true else L j) (fun j => if j = 17 then v else xs j) W' :=
  ⟨fun j hj hL h1 h2 => by simp only [if_neg h2] at hL ⊢; exact h.at' j hj hL h1 h2, fun hL => (by simp [h15] at hL), fun _ hL => (by simp at hL), fun _ => hr, fun hL => by simpa using h.d9 (by simpa using hL), fun hL => by simpa using h.d13 (by simpa using hL), fun _ => by simpa using h15⟩
end
set_option maxRecDepth 100000 in
set_option maxHeartbeats 6400000 in
theorem chorder_walk {w : World} {a : Option Addr} {m cap : Nat} {l : List Wr} (hl : Wrs w a m cap l) (hs : WShort l) (hi : ∀ c ∈ l, IsI64 c.i) (z : Int) (hT : TabW w) :
    Calls Tryd.prog 4 #[.slice a m cap, .int .i64 z] w (Tells (.bool true) w) := by
  have hle := hl.le
  have hmax := hl.max
  have hll := hl.len
  have HLv := Lib.hid (fun W (h : Below w.heap.size w W) => chlives_c (hT.below h))
  have hLT := lightw_c (x := none) (n1 := 0) (cap := 0) (by omega) hl hs
  obtain ⟨L, hL⟩ : ∃ q, decide (lightW 0 l m ≤ 5000) = q := ⟨_, rfl⟩
  rw [hL] at hLT
  cases L with
  | false =>
    have HLT := Lib.hid hLT
    clear hLT hL hl hs hi hll hT
    go_enter Tryd.func4, Tryd.ntmps4
    go_wp2_with (first
      | (go_at_call 5; (with_reducible refine HLT.out.mono ?_); rintro e9 w9 ⟨rfl, hb9⟩; have HB9 := Lib.hid hb9; clear hb9)
      | (go_at_call 6; (with_reducible refine (HLv.out _ HB9.out).mono ?_); rintro e8 w8 ⟨rfl, hb8⟩))
    go_ret
    exact ⟨rfl, HB9.out.trans (hb8.mono HB9.out.size)⟩
  | true =>
    have hfit := lightW_fits (of_decide_eq_true hL)
    have hm5 : m ≤ 500 := by omega
    have HFW := Lib.hid (show ∀ c ∈ l, FitW c from fun c hc => ⟨(hs c hc).1, hi c hc⟩)
    have HLT := Lib.hid hLT
    have HL := Lib.hid hl
    have HLL := Lib.hid hll
    clear hLT hL hl hs hi hll hT hfit
    by_cases h2 : m < 2
    · have h2i : (m : Int) < 2 := by omega
      go_enter Tryd.func4, Tryd.ntmps4
      go_wp2_with (first
        | (go_at_call 5; (with_reducible refine HLT.out.mono ?_); rintro e9 w9 ⟨rfl, hb9⟩; have HB9 := Lib.hid hb9; clear hb9)
        | (go_at_call 6; (with_reducible refine (HLv.out _ HB9.out).mono ?_); rintro e8 w8 ⟨rfl, hb8⟩))
      go_ret
      exact ⟨rfl, HB9.out.trans (hb8.mono HB9.out.size)⟩
    have h2i : ¬ (m : Int) < 2 := by omega
    go_enter Tryd.func4, Tryd.ntmps4
    go_upto_region 3 with (first
      | (go_at_call 5; (with_reducible refine HLT.out.mono ?_); rintro e9 w9 ⟨rfl, hb9⟩; have HB9 := Lib.hid hb9; clear hb9))
    have hO0 := Lib.hid (OwnW.none_made (w := w9) HB9.out.size)
    have hal := alloc_below w9 (.cells #[] 28)
    have HBa := Lib.hid (HB9.out.trans (hal.mono HB9.out.size))
    clear hal
    go_upto_region 4 with (at_builtin; refine wpList_append_wrsN rfl _ _ rfl rfl hO0.out rfl (HL.out.below HBa.out) (by omega) HBa.out.size ?_; intro a1 c1 w1 ho1 hw1 hg1)
    have HB := Lib.hid (HBa.out.grown hg1 HBa.out.size (fun k e => (hO0.out.lt k e).1))
    obtain ⟨g, rfl, hBg, hgl⟩ := own_someW ho1 (by rw [HLL.out]; omega)
    have HO := Lib.hid ho1
    have H1 := Lib.hid hw1
    have hc1 := hw1.le
    clear ho1 hw1 hg1 hO0 HBa HB9 HLT
    obtain ⟨m1, hm1⟩ : ∃ m1, m = m1 + 1 := ⟨m - 1, by omega⟩
    obtain ⟨q, hq, hqm⟩ := pick_at2 z (m := m1) (by omega) (by omega)
    have hs1 : IntKind.i64.wrap ((m : Int) - 1) = (m1 : Int) := by rw [wrap_small (by omega) (by omega)]; omega
    have hs2 : IntKind.u64.wrap (m1 : Int) = (m1 : Int) := wrap_smallu (by omega) (by omega)
    have hs3 : ¬ (m1 : Int) = 0 := by omega
    have hs4 : ((m1 : Int) == 0) = false := by rw [beq_eq_false_iff_ne]; exact hs3
    have HM1 := Lib.hid hm1
    have HQM := Lib.hid hqm
    clear hm1 hqm
    go_upto_region 5 with (fail)
    rw [hq]
    clear hq hs1 hs2 hs3 hs4
    obtain ⟨p, hp⟩ : ∃ p, q + 1 = p := ⟨_, rfl⟩
    have hpm : p < m := by have := HM1.out; have := HQM.out; omega
    have hqm : q < m := by omega
    have hpi : (q : Int) + 1 = (p : Int) := by omega
    have k1 : (p : Int) < (m : Int) := by omega
    have k2 : (q : Int) < (m : Int) := by omega
    have k3 : (p : Int) < (c1 : Int) := by omega
    have k4 : (q : Int) < (c1 : Int) := by omega
    have HAT := Lib.hid (wrs_at H1.out hpm)
    have HBT := Lib.hid (wrs_at H1.out hqm)
    obtain ⟨⟨kx, ix, gx, vx⟩, hx⟩ : ∃ y, l.getD q Wr.zero = y := ⟨_, rfl⟩
    obtain ⟨⟨ky, iy, gy, vy⟩, hy⟩ : ∃ y, l.getD p Wr.zero = y := ⟨_, rfl⟩
    rw [hx] at HBT
    rw [hy] at HAT
    have HSW := Lib.hid (show (kx == ky) = false ∨ (ix == iy) = false → canonS ((l.set q ⟨ky, iy, gy, vy⟩).set p ⟨kx, ix, gx, vx⟩) = canonS l from fun h => by
      rw [← hx, ← hy]
      subst hp
      refine swap_canon (by rw [HLL.out]; exact hpm) ?_
      rw [hx, hy]
      intro e
      injection e with e1 e2
      subst e1 e2
      rcases h with h | h <;> simp at h)
    have HP := Lib.hid hp
    have hql : q < l.length := by rw [HLL.out]; exact hqm
    have hpl : p < l.length := by rw [HLL.out]; exact hpm
    have hl0 : 0 < l.length := by omega
    have hmemq : l.getD q Wr.zero ∈ l := by rw [List.getD_eq_getElem?_getD, List.getElem?_eq_getElem hql]; exact List.getElem_mem _
    have hmemp : l.getD p Wr.zero ∈ l := by rw [List.getD_eq_getElem?_getD, List.getElem?_eq_getElem hpl]; exact List.getElem_mem _
    rw [hx] at hmemq
    rw [hy] at hmemp
    have HFX := Lib.hid (HFW.out _ hmemq)
    have HFY := Lib.hid (HFW.out _ hmemp)
    have HX := Lib.hid hx
    have HY := Lib.hid (show (l.set q ⟨ky, iy, gy, vy⟩).getD p Wr.zero = ⟨ky, iy, gy, vy⟩ ∧ l.getD p Wr.zero = ⟨ky, iy, gy, vy⟩ from ⟨by rw [List.getD_eq_getElem?_getD, List.getElem?_set_ne (by omega), ← List.getD_eq_getElem?_getD]; exact hy, hy⟩).2
    clear hx hy hp hmemq hmemp
    obtain ⟨c0, c1', -⟩ := HAT.out w1 (Below.refl _ _)
    obtain ⟨d0, d1, -⟩ := HBT.out w1 (Below.refl _ _)
    simp only at c0 c1' d0 d1
    have hte := text_eqb kx ky
    obtain ⟨u, hu⟩ : ∃ u, text kx = u := ⟨_, rfl⟩
    obtain ⟨u', hu'⟩ : ∃ u, text ky = u := ⟨_, rfl⟩
    rw [hu] at hte d0
    rw [hu'] at hte c0
    clear hu hu'
    by_cases hsame : (kx == ky) = true ∧ (ix == iy) = true
    · obtain ⟨h1, h3⟩ := hsame
      rw [h1] at hte
      clear h1
      go_quiet (fail)
      have hz := HB.out.trans ((below_drewN (Below.refl w1.heap.size w1) nq).mono HB.out.size)
      have HZ := Lib.hid hz
      clear hz
      go_wp2_with (go_at_call 6; (with_reducible refine (HLv.out _ HZ.out).mono ?_); rintro e8 w8 ⟨rfl, hb8⟩)
      go_ret
      exact ⟨rfl, HZ.out.trans (hb8.mono HZ.out.size)⟩
    · have hcase : (kx == ky) = false ∨ ((kx == ky) = true ∧ (ix == iy) = false) := by
        cases h1 : (kx == ky) <;> cases h3 : (ix == iy) <;> simp_all
      have HEQ := Lib.hid (HSW.out (hcase.imp id (·.2)))
      clear hsame
      rcases hcase with h1 | ⟨h1, h3⟩
      all_goals
        rw [h1] at hte
        clear h1
        go_quiet (fail)
        clear c0 c1' d0 d1 hte
        obtain ⟨W2, hW2⟩ : ∃ X, w1.drewN nq = X := ⟨_, rfl⟩
        have HB2 := Lib.hid (show Below w1.heap.size w1 W2 from hW2 ▸ below_drewN (Below.refl w1.heap.size w1) nq)
        have HBW := Lib.hid (HB.out.trans (HB2.out.mono HB.out.size))
        have HO2 := Lib.hid (show OwnW W2 w.heap.size (.slice (some ⟨g, 0, none⟩) m c1) l from hW2 ▸ HO.out)
        rw [hW2]
        clear hW2
        go_upto_region 7 with (fail)
        refine wp_region_inv [none, none, none, none, none, none, none, none, none, none, none, none, none, none, none, none, none, none, none, none, none, none, none, none, none, none, none, none, none, none, none, none, none, none, none, none, none, none, none, none, none, none, none, none, none, none, none, none, none, none, none, none, none, none, some 0, some 1, some 2, some 3, some 4, some 5, some 6, some 7, some 8, some 9, some 10, some 11, some 12, some 13, some 14, some 16, none, none, none, none, none, none, none, none] (fun i => [undef, undef, undef, undef, undef, undef, undef, undef, undef, undef, undef, undef, undef, undef, undef, undef, undef, undef].getD i undef) (InvW (fun i => [.slice (some ⟨g, 0, none⟩) m c1, .int .i64 (q : Int), .slice (some ⟨g, 0, none⟩) m c1, .int .i64 (q : Int), .int .i64 (p : Int), .slice (some ⟨g, 0, none⟩) m c1, .int .i64 (q : Int), .int .i64 (p : Int), .pointer (some ⟨g, p * 4, none⟩), .agg #[.string (text ky), .int .i64 iy, .bool gy, .string (text vy)], .slice (some ⟨g, 0, none⟩) m c1, .int .i64 (q : Int), .pointer (some ⟨g, q * 4, none⟩), .agg #[.string (text kx), .int .i64 ix, .bool gx, .string (text vx)], .pointer (some ⟨g, q * 4, none⟩), undef, .pointer (some ⟨g, p * 4, none⟩), undef].getD i undef) (fun W => OwnW W w.heap.size (.slice (some ⟨g, 0, none⟩) m c1) l ∧ Below w.heap.size w W) (fun W => OwnW W w.heap.size (.slice (some ⟨g, 0, none⟩) m c1) (l.set q ⟨ky, iy, gy, vy⟩) ∧ Below w.heap.size w W) (fun W => OwnW W w.heap.size (.slice (some ⟨g, 0, none⟩) m c1) ((l.set q ⟨ky, iy, gy, vy⟩).set p ⟨kx, ix, gx, vx⟩) ∧ Below w.heap.size w W)) (by kernel_rfl) (by kernel_rfl) rfl rfl (fun L hL => InvW.start hL ⟨HO2.out, below_drewN HBW.out 1⟩) ?_ ?_
        · simp only [invOps, and_true]
          refine ⟨?_, ?_, ?_, ?_, ?_, ?_, ?_, ?_, ?_, ?_, ?_, ?_, ?_, ?_, ?_, ?_, ?_, ?_⟩
          · intro L xs W hI hL hn
            simp only [flowAct, List.zipWith_cons_cons, List.zipWith_nil_left]
            go_wp2_with (fail)
            exact ⟨rfl, _, rfl, hI.val 0 (by decide) rfl⟩
          · intro L xs W hI hL hn
            simp only [flowAct, List.zipWith_cons_cons, List.zipWith_nil_left]
            go_wp2_with (fail)
            exact ⟨rfl, _, rfl, hI.val 1 (by decide) rfl⟩
          · intro L xs W hI hL hn
            simp only [flowAct, List.zipWith_cons_cons, List.zipWith_nil_left]
            go_wp2_with (fail)
            exact ⟨rfl, _, rfl, hI.val 2 (by decide) rfl⟩
          · intro L xs W hI hL hn
            simp only [flowAct, List.zipWith_cons_cons, List.zipWith_nil_left]
            go_wp2_with (fail)
            exact ⟨rfl, _, rfl, hI.val 3 (by decide) rfl⟩
          · intro L xs W hI hL hn
            simp [invNeeds, Region.binds] at hn
            have e3 : xs 3 = .int .i64 (q : Int) := hI.at' 3 (by decide) (by simp only [hn]) (by decide) (by decide)
            simp only [flowAct, List.zipWith_cons_cons, List.zipWith_nil_left]
            simp only [e3]
            go_wp2_with (fail)
            exact ⟨rfl, _, rfl, hI.val 4 (by decide) rfl⟩
          · intro L xs W hI hL hn
            simp only [flowAct, List.zipWith_cons_cons, List.zipWith_nil_left]
            go_wp2_with (fail)
            exact ⟨rfl, _, rfl, hI.val 5 (by decide) rfl⟩
          · intro L xs W hI hL hn
            simp only [flowAct, List.zipWith_cons_cons, List.zipWith_nil_left]
            go_wp2_with (fail)
            exact ⟨rfl, _, rfl, hI.val 6 (by decide) rfl⟩
          · intro L xs W hI hL hn
            simp [invNeeds, Region.binds] at hn
            have e6 : xs 6 = .int .i64 (q : Int) := hI.at' 6 (by decide) (by simp only [hn]) (by decide) (by decide)
            simp only [flowAct, List.zipWith_cons_cons, List.zipWith_nil_left]
            simp only [e6]
            go_wp2_with (fail)
            exact ⟨rfl, _, rfl, hI.val 7 (by decide) rfl⟩
          · intro L xs W hI hL hn
            simp [invNeeds, Region.binds] at hn
            have e5 : xs 5 = .slice (some ⟨g, 0, none⟩) m c1 := hI.at' 5 (by decide) (by simp only [hn]) (by decide) (by decide)
            have e7 : xs 7 = .int .i64 (p : Int) := hI.at' 7 (by decide) (by simp only [hn]) (by decide) (by decide)
            simp only [flowAct, List.zipWith_cons_cons, List.zipWith_nil_left]
            simp only [e5, e7]
            go_wp2_with (fail)
            exact ⟨rfl, _, rfl, hI.val 8 (by decide) rfl⟩
          · intro L xs W hI hL hn
            simp [invNeeds, Region.binds] at hn
            have e8 : xs 8 = .pointer (some ⟨g, p * 4, none⟩) := hI.at' 8 (by decide) (by simp only [hn]) (by decide) (by decide)
            have hr := (hI.early (.inl hL)).1
            obtain ⟨f0, f1, f2, f3⟩ := own_atW hr hpl W (Below.refl _ _)
            rw [HY.out] at f0 f1 f2 f3
            clear hr
            simp only [flowAct, List.zipWith_cons_cons, List.zipWith_nil_left]
            simp only [e8]
            go_wp2_with (fail)
            exact ⟨rfl, _, rfl, hI.val 9 (by decide) rfl⟩
          · intro L xs W hI hL hn
            simp only [flowAct, List.zipWith_cons_cons, List.zipWith_nil_left]
            go_wp2_with (fail)
            exact ⟨rfl, _, rfl, hI.val 10 (by decide) rfl⟩
          · intro L xs W hI hL hn
            simp only [flowAct, List.zipWith_cons_cons, List.zipWith_nil_left]
            go_wp2_with (fail)
            exact ⟨rfl, _, rfl, hI.val 11 (by decide) rfl⟩
          · intro L xs W hI hL hn
            simp [invNeeds, Region.binds] at hn
            have e10 : xs 10 = .slice (some ⟨g, 0, none⟩) m c1 := hI.at' 10 (by decide) (by simp only [hn]) (by decide) (by decide)
            have e11 : xs 11 = .int .i64 (q : Int) := hI.at' 11 (by decide) (by simp only [hn]) (by decide) (by decide)
            simp only [flowAct, List.zipWith_cons_cons, List.zipWith_nil_left]
            simp only [e10, e11]
            go_wp2_with (fail)
            exact ⟨rfl, _, rfl, hI.val 12 (by decide) rfl⟩
          · intro L xs W hI hL hn
            simp [invNeeds, Region.binds] at hn
            have e12 : xs 12 = .pointer (some ⟨g, q * 4, none⟩) := hI.at' 12 (by decide) (by simp only [hn]) (by decide) (by decide)
            have hr := (hI.early (.inr hL)).1
            obtain ⟨f0, f1, f2, f3⟩ := own_atW hr hql W (Below.refl _ _)
            rw [HX.out] at f0 f1 f2 f3
            clear hr
            simp only [flowAct, List.zipWith_cons_cons, List.zipWith_nil_left]
            simp only [e12]
            go_wp2_with (fail)
            exact ⟨rfl, _, rfl, hI.val 13 (by decide) rfl⟩
          · intro L xs W hI hL hn
            simp [invNeeds, Region.binds] at hn
            have e0 : xs 0 = .slice (some ⟨g, 0, none⟩) m c1 := hI.at' 0 (by decide) (by simp only [hn]) (by decide) (by decide)
            have e1 : xs 1 = .int .i64 (q : Int) := hI.at' 1 (by decide) (by simp only [hn]) (by decide) (by decide)
            simp only [flowAct, List.zipWith_cons_cons, List.zipWith_nil_left]
            simp only [e0, e1]
            go_wp2_with (fail)
            exact ⟨rfl, _, rfl, hI.val 14 (by decide) rfl⟩
          · intro L xs W hI hL hn
            simp [invNeeds, Region.binds] at hn
            have e14 : xs 14 = .pointer (some ⟨g, q * 4, none⟩) := hI.at' 14 (by decide) (by simp only [hn]) (by decide) (by decide)
            have e9 : xs 9 = .agg #[.string (text ky), .int .i64 iy, .bool gy, .string (text vy)] := hI.at' 9 (by decide) (by simp only [hn]) (by decide) (by decide)
            have hr := hI.r0 hL
            have h9 : L 9 = true := by simp only [hn]
            have h13 : L 13 = true := by simp only [hn]
            obtain ⟨f0, f1, f2, f3⟩ := own_atW hr.1 hql W (Below.refl _ _)
            have fz := own_frozen hr.1 hl0
            have HR := Lib.hid (show ((fun W => OwnW W w.heap.size (.slice (some ⟨g, 0, none⟩) m c1) (l.set q ⟨ky, iy, gy, vy⟩) ∧ Below w.heap.size w W) ((((W.setCell ⟨g, q * 4, none⟩ (.string (text ky))).setCell ⟨g, q * 4 + 1, none⟩ (.int .i64 iy)).setCell ⟨g, q * 4 + 2, none⟩ (.bool gy)).setCell ⟨g, q * 4 + 3, none⟩ (.string (text vy)))) from ⟨own_putW hr.1 hql _ _ _ _, put4_below hr.2 hBg _ _ _ _⟩)
            clear hr
            simp only [flowAct, List.zipWith_cons_cons, List.zipWith_nil_left]
            simp only [e14, e9]
            go_wp2_with (fail)
            exact ⟨rfl, undef, rfl, hI.st15 hL h9 h13 HR.out undef⟩
          · intro L xs W hI hL hn
            simp [invNeeds, Region.binds] at hn
            have e2 : xs 2 = .slice (some ⟨g, 0, none⟩) m c1 := hI.at' 2 (by decide) (by simp only [hn]) (by decide) (by decide)
            have e4 : xs 4 = .int .i64 (p : Int) := hI.at' 4 (by decide) (by simp only [hn]) (by decide) (by decide)
            simp only [flowAct, List.zipWith_cons_cons, List.zipWith_nil_left]
            simp only [e2, e4]
            go_wp2_with (fail)
            exact ⟨rfl, _, rfl, hI.val 16 (by decide) rfl⟩
          · intro L xs W hI hL hn
            simp [invNeeds, Region.binds] at hn
            have e16 : xs 16 = .pointer (some ⟨g, p * 4, none⟩) := hI.at' 16 (by decide) (by simp only [hn]) (by decide) (by decide)
            have e13 : xs 13 = .agg #[.string (text kx), .int .i64 ix, .bool gx, .string (text vx)] := hI.at' 13 (by decide) (by simp only [hn]) (by decide) (by decide)
            have h15 : L 15 = true := by simp only [hn]
            have hr := hI.r1 h15 hL
            obtain ⟨f0, f1, f2, f3⟩ := own_atW hr.1 (by rw [List.length_set]; exact hpl) W (Below.refl _ _)
            have fz := own_frozen hr.1 (by rw [List.length_set]; exact hl0)
            have HR := Lib.hid (show ((fun W => OwnW W w.heap.size (.slice (some ⟨g, 0, none⟩) m c1) ((l.set q ⟨ky, iy, gy, vy⟩).set p ⟨kx, ix, gx, vx⟩) ∧ Below w.heap.size w W) ((((W.setCell ⟨g, p * 4, none⟩ (.string (text kx))).setCell ⟨g, p * 4 + 1, none⟩ (.int .i64 ix)).setCell ⟨g, p * 4 + 2, none⟩ (.bool gx)).setCell ⟨g, p * 4 + 3, none⟩ (.string (text vx)))) from ⟨own_putW hr.1 (by rw [List.length_set]; exact hpl) _ _ _ _, put4_below hr.2 hBg _ _ _ _⟩)
            clear hr
            simp only [flowAct, List.zipWith_cons_cons, List.zipWith_nil_left]
            simp only [e16, e13]
            go_wp2_with (fail)
            exact ⟨rfl, undef, rfl, hI.st17 h15 HR.out undef⟩
        · intro L xs W3 hI hL
          obtain ⟨hO3, hB3⟩ := hI.r2 (hL 17 (by decide))
          obtain ⟨a9, c9, e9, hw3⟩ := OwnL.wrs hO3
          have hlen : ((l.set q ⟨ky, iy, gy, vy⟩).set p ⟨kx, ix, gx, vx⟩).length = m := by rw [List.length_set, List.length_set]; exact HLL.out
          rw [hlen] at e9 hw3
          injection e9 with x1 x2 x3
          subst x1 x3
          have HW3 := Lib.hid hw3
          have HB3 := Lib.hid hB3
          have HF3 := Lib.hid (show ∀ c ∈ (l.set q ⟨ky, iy, gy, vy⟩).set p ⟨kx, ix, gx, vx⟩, FitW c from fun c hc => by
            rcases List.mem_or_eq_of_mem_set hc with h | h
            · rcases List.mem_or_eq_of_mem_set h with h | h
              · exact HFW.out c h
              · rw [h]; exact HFY.out
            · rw [h]; exact HFX.out)
          clear hI hL hO3 hB3 hw3 x2 hlen
          simp only [flowAct, List.zipWith_cons_cons, List.zipWith_nil_left]
          have hcl := canon_few2 l
          go_wp2_with (first
            | (go_at_call 7; (with_reducible refine (canon_c (HL.out.below HB3.out) HFW.out (by omega)).mono ?_); rintro e4 w4 ⟨v4, rfl, ho4, hb4⟩; obtain ⟨a4, c4, e4, hw4⟩ := OwnL.wrs ho4; subst e4; have HB4 := Lib.hid (HB3.out.trans (hb4.mono HB3.out.size)); have HW4 := Lib.hid hw4; have HW34 := Lib.hid (HW3.out.below hb4); clear ho4 hw4 hb4)
            | (go_at_call 7; (with_reducible refine (canon_c HW34.out HF3.out (by omega)).mono ?_); rintro e5 w5 ⟨v5, rfl, ho5, hb5⟩; obtain ⟨a5, c5, e5, hw5⟩ := OwnL.wrs ho5; rw [HEQ.out] at e5 hw5; subst e5; have HB5 := Lib.hid (HB4.out.trans (hb5.mono HB4.out.size)); have HW5 := Lib.hid hw5; have HW45 := Lib.hid (HW4.out.below hb5); clear ho5 hw5 hb5)
            | (go_at_call 8; (with_reducible refine (rwrites_self HW45.out HW5.out).mono ?_); rintro e6 w6 ⟨rfl, hb6⟩; have HB6 := Lib.hid (HB5.out.trans (hb6.mono HB5.out.size)); clear hb6)
            | (go_at_call 6; (with_reducible refine (HLv.out _ HB6.out).mono ?_); rintro e8 w8 ⟨rfl, hb8⟩))
          go_ret
          exact ⟨rfl, HB6.out.trans (hb8.mono HB6.out.size)⟩
end Go.Proofs.YtjkifdjjcfempaaDoor
end

