/-
  Merged: MR EC E1 DJ ED FRB FRE0 FRE1.
-/
import Derived.Deep.QuietTactic
import Derived.StillTail
import Derived.Lib.QuietBelow
import Derived.Test.YtdjhiaogpgaboaaRows
import Derived.WalkKit
import Derived.Lib.Hide
import Derived.BigQuiet
import Derived.BigRegion
import Derived.Deep.Cut
import Derived.Deep.MidRow
import Derived.Great.BuildSlice
import Derived.Outline
import Derived.OwnWalk
import Derived.Laws.Rows
import Derived.ChangeKeysEq
import Derived.Laws.StructEq
import Derived.WalkSpells
import Derived.WalkLawsBesides
import Derived.Laws.CopyOwn
import Derived.WalkSmall
import Derived.Lib.LaidTab
import Derived.Deep.RegionWith
import Derived.Lib.MinMax
import Derived.WideShapes
import Derived.ChangeSame
import Derived.OpenShut
import Derived.Deep.Slices
import Derived.OrdersIn
import Derived.TacticsIn
import Derived.RangeFuncNested
import Derived.RangeFuncBound
import Derived.RangeFuncCalls
import Derived.RangeFuncLeaves
import Derived.Deep.AppendSrc
import Derived.Lib.AppendZerosOnto
import Derived.Lib.SliceRun
import Derived.Lib.Walk
import Derived.Lib.OthersKept
import Derived.Laws.RangeAny
import Derived.Maps.OwnOps
import Derived.Maps.Views
import Derived.ChangeSlices
import Derived.ChangeArms
import Derived.Deep.DeepAppendWide
import Derived.Maps.AppendAt
import Derived.Shelf.Abstract
import Derived.OwnWalkIn
import Derived.TacticsInMore
import Derived.LoopNIn
import Derived.LoopIn
import Derived.Test.YtdjhiaogpgaboaaSC1

section
namespace Go.Proofs.Ytdjhiaogpgaboaa
open Go.RowKit Go Go.Sort
set_option linter.unusedVariables false
set_option maxRecDepth 20000

theorem own_ne {W : World} {q B s k : Nat} {e t : TypeId} {cs : Array Value} {fr : Nat × Nat} {v : Value} {xs : List Value} (h : W.heap[q]? = some (.cells cs t fr)) (ht : t ≠ e) (ho : W.ownsRow B e s v k xs) : some q ≠ v.ownBlock := by
  rcases ho.2 with ⟨rfl, _⟩ | ⟨g, cap, cur, rfl, _, hgb, _⟩
  · simp [Value.ownBlock]
  · intro e'
    obtain rfl : q = g := by simpa [Value.ownBlock] using e'
    rw [h] at hgb; cases hgb; exact ht rfl
end Go.Proofs.Ytdjhiaogpgaboaa
end

section
namespace Go.Proofs.Ytdjhiaogpgaboaa
open Go.RowKit Go Go.Sort
set_option linter.unusedVariables false
set_option maxRecDepth 20000

theorem own_some {W : World} {B : Nat} {v : Value} {cs : List Cl} (h : OwnC W B v cs) (hp : 0 < cs.length) : ∃ g c, v = .slice (some ⟨g, 0, none⟩) cs.length c ∧ B ≤ g ∧ cs.length ≤ c ∧ g < W.heap.size := by
  obtain ⟨hlen, ⟨ev, hn⟩ | ⟨g', cap, cur, ev, hB, hg, hnc, hcm, hcs, htake⟩⟩ := h
  · omega
  · exact ⟨g', cap, ev, hB, hnc, (Array.getElem?_eq_some_iff.1 hg).1⟩
/-- A row of the call's own, whose block nobody else turned. -/
theorem OwnC.of_block {w w' : World} {B : Nat} {v : Value} {l : List Cl} (h : OwnC w B v l) (hb : ∀ q, v.ownBlock = some q → w'.heap[q]? = w.heap[q]?) : OwnC w' B v l := by
  obtain ⟨hlen, ⟨ev, hn⟩ | ⟨g, cap, cur, ev, hB, hg, hnc, hcm, hcs, htake⟩⟩ := h
  · exact ⟨hlen, .inl ⟨ev, hn⟩⟩
  · exact ⟨hlen, .inr ⟨g, cap, cur, ev, hB, (hb g (by subst ev; rfl)).trans hg, hnc, hcm, hcs, htake⟩⟩
/-- A world that differs in one value's own block alone. -/
structure OnlyV (v : Value) (W W' : World) : Prop where
  os : W'.os = W.os
  tape : W'.tape = W.tape
  output : W'.output = W.output
  size : W'.heap.size = W.heap.size
  rest : ∀ q, some q ≠ v.ownBlock → W'.heap[q]? = W.heap[q]?
theorem OnlyV.refl (v : Value) (W : World) : OnlyV v W W := ⟨rfl, rfl, rfl, rfl, fun _ _ => rfl⟩
theorem OnlyV.cell {g m c : Nat} {W W' : World} (h : OnlyV (.slice (some ⟨g, 0, none⟩) m c) W W') (i : Nat) (u : Value) : OnlyV (.slice (some ⟨g, 0, none⟩) m c) W (W'.setCell ⟨g, i, none⟩ u) := by
  have hb := (Below.refl 0 W').setCell (p := ⟨g, i, none⟩) (Nat.zero_le _) u
  refine ⟨hb.os.trans h.os, hb.tape.trans h.tape, hb.output.trans h.output, (World.size_setCell _ _ _).trans h.size, fun q hq => (Below.heap_setCell W' ⟨g, i, none⟩ u q (fun e => hq (by subst e; rfl))).trans (h.rest q hq)⟩
theorem OnlyV.below {v : Value} {W W' : World} (h : OnlyV v W W') {B : Nat} (hB : ∀ q, v.ownBlock = some q → B ≤ q) : Below B W W' :=
  ⟨h.os, h.tape, h.output, Nat.le_of_eq h.size.symm, fun k hk => h.rest k (fun e => by have := hB k e.symm; omega)⟩
theorem OnlyV.own {v u : Value} {W W' : World} (h : OnlyV v W W') {B : Nat} {l : List Cl} (ho : OwnC W B u l) (hne : ∀ q, u.ownBlock = some q → some q ≠ v.ownBlock) : OwnC W' B u l := ho.of_block fun q hq => h.rest q (hne q hq)
theorem OnlyV.at {v : Value} {W W' : World} (h : OnlyV v W W') {q : Nat} {o : Obj} (ho : W.heap[q]? = some o) (hne : some q ≠ v.ownBlock) : W'.heap[q]? = some o := (h.rest q hne).trans ho
/-- A row, with its slice of cells as it stands in memory. -/
structure Rw where
  k : List UInt8
  u : Value
  cs : List Cl
def Rw.zero : Rw := ⟨[], .slice none 0 0, []⟩
def Rw.arr (r : Rw) : Array Value := #[.string (text r.k), r.u]
/-- Rows of the call's own, each with cells of its own, and no two with the same. -/
structure OwnRw (W : World) (B n1 : Nat) (v : Value) (L : List Rw) : Prop where
  row : OwnL 2 50 Rw.arr W B v L
  own : ∀ j, j < L.length → OwnC W B (L.getD j Rw.zero).u (L.getD j Rw.zero).cs ∧ (L.getD j Rw.zero).cs.length = n1
  apart : ∀ i j, i < j → j < L.length → (L.getD i Rw.zero).u.ownBlock ≠ (L.getD j Rw.zero).u.ownBlock
theorem OwnRw.nil (W : World) (B n1 : Nat) : OwnRw W B n1 (.slice none 0 0) [] := ⟨OwnL.nil _ _ _, fun j hj => by simp at hj, fun i j _ hj => by simp at hj⟩
theorem OwnRw.kept {W W' : World} {B n1 : Nat} {v : Value} {L : List Rw} (h : OwnRw W B n1 v L) (hb : Below W.heap.size W W') : OwnRw W' B n1 v L := ⟨h.row.kept hb, fun j hj => ⟨(h.own j hj).1.kept hb, (h.own j hj).2⟩, h.apart⟩
theorem own_block {W : World} {B : Nat} {u : Value} {cs : List Cl} (h : OwnC W B u cs) {q : Nat} (hq : u.ownBlock = some q) : ∃ cur fr, W.heap[q]? = some (.cells cur 60 fr) := by
  obtain ⟨hlen, ⟨ev, hn⟩ | ⟨g, cap, cur, ev, hB, hg, hnc, hcm, hcs, htake⟩⟩ := h
  · subst ev; cases hq
  · subst ev
    obtain rfl : q = g := by
      have : some g = some q := hq
      injection this with e; exact e.symm
    exact ⟨_, _, hg⟩
theorem own_kinds {W : World} {B B' : Nat} {u v : Value} {cs : List Cl} {L : List Rw} (h : OwnC W B u cs) (hr : OwnL 2 50 Rw.arr W B' v L) {q : Nat} (hq : u.ownBlock = some q) : some q ≠ v.ownBlock := by
  obtain ⟨cur, fr, hc⟩ := own_block h hq
  exact own_ne hc (by decide) hr
theorem lCells_map {L M : List Rw} (h : L.map Rw.arr = M.map Rw.arr) : lCells Rw.arr L = lCells Rw.arr M := by
  unfold lCells
  have e : ∀ N : List Rw, N.flatMap (fun c => (Rw.arr c).toList) = (N.map Rw.arr).flatMap Array.toList := fun N => by rw [List.flatMap_map]
  rw [e, e, h]
theorem getD_set {L : List Rw} {r : Rw} {i j : Nat} (hj : j < L.length) : (L.set i r).getD j Rw.zero = if i = j then r else L.getD j Rw.zero := by
  rw [List.getD_eq_getElem?_getD, List.getD_eq_getElem?_getD, List.getElem?_set]
  by_cases e : i = j
  · subst e; rw [if_pos rfl, if_pos rfl, if_pos hj]; rfl
  · rw [if_neg e, if_neg e]
/-- Other cells in one row. -/
theorem OwnRw.store {W W' : World} {B n1 : Nat} {v : Value} {L : List Rw} {j : Nat} {cs' : List Cl} (h : OwnRw W B n1 v L) (hj : j < L.length) (ho : OnlyV (L.getD j Rw.zero).u W W') (hc : OwnC W' B (L.getD j Rw.zero).u cs') (hn : cs'.length = n1) (h1 : 0 < n1) : OwnRw W' B n1 v (L.set j ⟨(L.getD j Rw.zero).k, (L.getD j Rw.zero).u, cs'⟩) := by
  obtain ⟨g, c, eu, -, -, -⟩ := own_some (h.own j hj).1 (by have := (h.own j hj).2; omega)
  have eg : (L.getD j Rw.zero).u.ownBlock = some g := by rw [eu]; rfl
  have hmap : (L.set j ⟨(L.getD j Rw.zero).k, (L.getD j Rw.zero).u, cs'⟩).map Rw.arr = L.map Rw.arr := by
    rw [List.map_set]
    apply List.ext_getElem (by simp)
    intro i h2 h3
    rw [List.getElem_set]
    split
    · rename_i e; subst e
      rw [List.getElem_map]
      show Rw.arr _ = _
      rw [List.getD_eq_getElem?_getD, List.getElem?_eq_getElem hj]; rfl
    · rfl
  refine ⟨?_, fun i hi => ?_, fun i k hik hk => ?_⟩
  · have h2 : OwnL 2 50 Rw.arr W' B v L := h.row.of_block fun q hq => ho.rest q (by
      rw [eg]; intro e
      have e : q = g := by injection e
      subst e
      exact own_kinds (h.own j hj).1 h.row eg hq.symm)
    unfold OwnL at h2 ⊢
    rw [List.length_set, lCells_map hmap]
    exact h2
  · rw [List.length_set] at hi
    rw [getD_set hi]
    by_cases e : j = i
    · subst e; rw [if_pos rfl]; exact ⟨hc, hn⟩
    · rw [if_neg e]
      refine ⟨ho.own (h.own i hi).1 fun q hq e2 => ?_, (h.own i hi).2⟩
      rcases Nat.lt_or_gt_of_ne e with h2 | h2
      · exact h.apart j i h2 hi (e2.symm.trans hq.symm)
      · exact h.apart i j h2 hj (hq.trans e2)
  · rw [List.length_set] at hk
    rw [getD_set hk, getD_set (by omega)]
    have e1 : (if j = i then (⟨(L.getD j Rw.zero).k, (L.getD j Rw.zero).u, cs'⟩ : Rw) else L.getD i Rw.zero).u = (L.getD i Rw.zero).u := by
      split
      · rename_i e; subst e; rfl
      · rfl
    have e2 : (if j = k then (⟨(L.getD j Rw.zero).k, (L.getD j Rw.zero).u, cs'⟩ : Rw) else L.getD k Rw.zero).u = (L.getD k Rw.zero).u := by
      split
      · rename_i e; subst e; rfl
      · rfl
    rw [e1, e2]
    exact h.apart i k hik hk
end Go.Proofs.Ytdjhiaogpgaboaa
end

section
namespace Go.Proofs.Ytdjhiaogpgaboaa
open Go.RowKit Go Go.Sort
set_option linter.unusedVariables false
set_option maxRecDepth 20000

/-- A write: key, group, whether it is gone, value. -/
structure Wr where
  k : List UInt8
  i : Int
  g : Bool
  v : List UInt8
def Wr.zero : Wr := ⟨[], 0, false, []⟩
end Go.Proofs.Ytdjhiaogpgaboaa
end

section
namespace Go.Proofs.Ytdjhiaogpgaboaa
open Go Go.RowKit
set_option linter.unusedVariables false

section
variable {P : Program} {ops : Array Oper} {md : Region.Mode}

/-- How one operation ends: the invariant holds with it. -/
def InvEnd (Inv : (Nat → Bool) → (Nat → Value) → World → Prop) (a : Act) (o : Oper) (i : Nat) (L : Nat → Bool) (xs : Nat → Value) (e : Exit) (a' : Act) (w' : World) : Prop :=
  e = .normal ∧ ∃ v, a' = a.put o.dst v ∧ Inv (fun j => if j = i then true else L j) (fun j => if j = i then v else xs j) w'

theorem wpAny_inv {Q : Exit → Act → World → Prop} (act : (Nat → Value) → Act) (Inv : (Nat → Bool) → (Nat → Value) → World → Prop)
    (hwf : ∀ i o, ops[i]? = some o → ∀ e ∈ o.after, Region.binds md e = true → e.on < i)
    (hput : ∀ i o xs v, ops[i]? = some o → (act xs).put o.dst v = act (fun j => if j = i then v else xs j))
    (hop : ∀ i o, ops[i]? = some o → ∀ L xs w, Inv L xs w → L i = false → (∀ e ∈ o.after, Region.binds md e = true → L e.on = true) → wpList P ops (InvEnd Inv (act xs) o i L xs) [o] (act xs) w)
    (hend : ∀ L xs w, Inv L xs w → (∀ i, i < ops.size → L i = true) → Q .normal (act xs) w) :
    ∀ (f : Nat) (listed : Array Bool) (xs : Nat → Value) (w : World), Inv (fun i => listed.getD i true) xs w → listed.size = ops.size → listed.toList.count false ≤ f → wpAny P md ops Q f listed (act xs) w := by
  have hnone : ∀ (listed : Array Bool), listed.size = ops.size → Region.ready md ops listed = [] → ∀ i, i < ops.size → listed.getD i true = true := by
    intro listed hs hr i
    induction i using Nat.strongRecOn with
    | _ i ih =>
      intro hi
      cases hl : listed.getD i true with
      | true => rfl
      | false =>
        have : i ∈ Region.ready md ops listed := by
          refine mem_ready.2 ⟨hl, ops[i], by simp [hi], fun e he hb => ?_⟩
          have hlt := hwf i ops[i] (by simp [hi]) e he hb
          have h1 := ih e.on hlt (by omega)
          have h2 : e.on < listed.size := by omega
          simp only [Array.getD_eq_getD_getElem?, Array.getElem?_eq_getElem h2, Option.getD_some] at h1 ⊢
          exact h1
        rw [hr] at this
        cases this
  intro f
  induction f with
  | zero =>
    intro listed xs w hI hs hc
    have hall : ∀ i, i < ops.size → listed.getD i true = true := by
      intro i hi
      cases hl : listed.getD i true with
      | true => rfl
      | false =>
        have h2 : i < listed.size := by omega
        have h3 : listed[i] = false := by simpa [Array.getD_eq_getD_getElem?, Array.getElem?_eq_getElem h2] using hl
        have : false ∈ listed.toList := by rw [← h3]; simp
        have := List.count_pos_iff.2 this
        omega
    refine ⟨?_, hend _ xs w hI hall⟩
    cases hr : Region.ready md ops listed with
    | nil => rfl
    | cons i r =>
      have hm : i ∈ Region.ready md ops listed := by rw [hr]; simp
      obtain ⟨hun, o, ho, _⟩ := mem_ready.1 hm
      have := hall i (Array.getElem?_eq_some_iff.1 ho).1
      rw [hun] at this
      cases this
  | succ f ih =>
    intro listed xs w hI hs hc
    refine ⟨fun hr => hend _ xs w hI (hnone listed hs hr), fun i hi => ?_⟩
    obtain ⟨hun, o, ho, hall⟩ := mem_ready.1 hi
    have hilt := (Array.getElem?_eq_some_iff.1 ho).1
    have h2 : i < listed.size := by omega
    refine wpOp_of_one ho (fun a' w' h => ?_) (fun e a' w' h => h.1) (hop i o ho _ xs w hI hun fun e he hb => ?_)
    · obtain ⟨_, v, rfl, hI'⟩ := h
      rw [hput i o xs v ho]
      refine ih _ _ w' ?_ (by simpa using hs) ?_
      · have hfe : (fun j => (listed.setIfInBounds i true).getD j true) = (fun j => if j = i then true else listed.getD j true) := by
          funext j
          by_cases hji : j = i
          · subst hji
            simp [Array.getD_eq_getD_getElem?, h2]
          · rw [getD_set_ne true (Ne.symm hji), if_neg hji]
        rw [hfe]
        exact hI'
      · have h3 : listed[i] = false := by simpa [Array.getD_eq_getD_getElem?, Array.getElem?_eq_getElem h2] using hun
        have := count_set_lt listed.toList i (by simp [h2, h3])
        rw [Array.toList_setIfInBounds]
        omega
    · have h1 := hall e he hb
      have h3 : e.on < listed.size := by have := hwf i o ho e he hb; omega
      simp only [Array.getD_eq_getD_getElem?, Array.getElem?_eq_getElem h3, Option.getD_some] at h1 ⊢
      exact h1

def invNeeds (md : Region.Mode) (L : Nat → Bool) : List Edge → Prop
  | [] => True
  | e :: l => (Region.binds md e = true → L e.on = true) ∧ invNeeds md L l
theorem invNeeds_of {L : Nat → Bool} : ∀ (l : List Edge), (∀ e ∈ l, Region.binds md e = true → L e.on = true) → invNeeds md L l
  | [], _ => trivial
  | e :: l, h => ⟨h e (by simp), invNeeds_of l fun e' he => h e' (by simp [he])⟩
def invOps (P : Program) (md : Region.Mode) (ops : Array Oper) (a : Act) (srcs : List (Option Nat)) (Inv : (Nat → Bool) → (Nat → Value) → World → Prop) : List Oper → Nat → Prop
  | [], _ => True
  | o :: l, k => (∀ L xs w, Inv L xs w → L k = false → invNeeds md L o.after.toList → wpList P ops (InvEnd Inv (flowAct a srcs xs) o k L xs) [o] (flowAct a srcs xs) w) ∧ invOps P md ops a srcs Inv l (k + 1)
theorem invOps_get {a : Act} {srcs : List (Option Nat)} {Inv : (Nat → Bool) → (Nat → Value) → World → Prop} : ∀ (l : List Oper) (k : Nat), invOps P md ops a srcs Inv l k → ∀ i o, l[i]? = some o →
    ∀ L xs w, Inv L xs w → L (k + i) = false → invNeeds md L o.after.toList → wpList P ops (InvEnd Inv (flowAct a srcs xs) o (k + i) L xs) [o] (flowAct a srcs xs) w
  | [], _, _, i, o, h => by simp at h
  | o' :: l, k, hh, 0, o, h => by
    obtain rfl : o' = o := by simpa using h
    exact hh.1
  | o' :: l, k, hh, i + 1, o, h => by
    have := invOps_get l (k + 1) hh.2 i o (by simpa using h)
    rwa [show k + 1 + i = k + (i + 1) by omega] at this
theorem wp_region_inv {id : Nat} {Q : Exit → Act → World → Prop} {l : List Oper} {a : Act} {w : World} (srcs : List (Option Nat)) (xs0 : Nat → Value) (Inv : (Nat → Bool) → (Nat → Value) → World → Prop) (hm : P.follows .mixedOrders = true)
    (hB : flowB .any l.toArray srcs = true) (hl : a.tmps.size = srcs.length) (h0 : flowAct a srcs xs0 = a)
    (hI0 : ∀ L, (∀ i, i < l.length → L i = false) → Inv L xs0 { w with drawn := w.drawn + 1 })
    (hops : invOps P .any l.toArray a srcs Inv l 0)
    (hend : ∀ L xs w', Inv L xs w' → (∀ i, i < l.length → L i = true) → Q .normal (flowAct a srcs xs) w') : (Code.region id l.toArray true).wp P Q a w := by
  refine wp_region_any hm ?_
  have := wpAny_inv (P := P) (ops := l.toArray) (md := .any) (Q := Q) (flowAct a srcs) Inv
    (fun i o ho => (flowB_spec hB ho).1) (fun i o xs v ho => flowAct_put hB hl ho xs v)
    (fun i o ho L xs x hI hL hn => by
      have := invOps_get l 0 hops i o (by simpa using ho) L xs x hI (by rwa [Nat.zero_add]) (invNeeds_of _ fun e he hb => hn e (by simpa using he) hb)
      rwa [Nat.zero_add] at this)
    (fun L xs x hI hL => hend L xs x hI (fun i hi => hL i (by simpa using hi)))
    l.toArray.size (Array.replicate l.toArray.size false) xs0 { w with drawn := w.drawn + 1 } (hI0 _ fun i hi => by
      rw [Array.getD_eq_getD_getElem?, Array.getElem?_eq_getElem (by simpa using hi)]; simp) (by simp) (by simp)
  rwa [h0] at this
end
end Go.Proofs.Ytdjhiaogpgaboaa
end

section
namespace Go.Proofs.Ytdjhiaogpgaboaa
open Go.RowKit Go Go.Sort
set_option linter.unusedVariables false
set_option maxRecDepth 20000

/-- What is told of a region's values stays while memory grows, and while boxes are filled. -/
structure GSt (ty : TypeId) (G : Nat → Value → World → Prop) : Prop where
  grow : ∀ i v X Y, G i v X → Below X.heap.size X Y → G i v Y
  wrote : ∀ i v X Y q cs ds, X.heap[q]? = some (.cells ds ty (0, 0)) → Wrote q cs ty X Y → G i v X → G i v Y
/-- Where the laying of n boxes stands: m operations that tell what G says, n that make boxes, n that fill them with what operation 'sr j' told. -/
def LayG (m n : Nat) (ty : TypeId) (z : Array Value) (G : Nat → Value → World → Prop) (sr : Nat → Nat) (w0 : World) (L : Nat → Bool) (xs : Nat → Value) (w : World) : Prop :=
  Below w0.heap.size w0 w ∧ (∀ i, i < m → L i = true → G i (xs i) w) ∧
  (∀ j, j < n → L (m + j) = true → ∃ g cs, xs (m + j) = .pointer (some ⟨g, 0, none⟩) ∧ w0.heap.size ≤ g ∧ w.heap[g]? = some (.cells cs ty (0, 0)) ∧ (if L (m + n + j) = true then G (sr j) (.agg cs) w else cs = z)) ∧
  (∀ j k, j < n → k < n → j ≠ k → L (m + j) = true → L (m + k) = true → xs (m + j) ≠ xs (m + k)) ∧
  (∀ j, j < n → L (m + n + j) = true → L (m + j) = true)
section
variable {m n : Nat} {ty : TypeId} {z : Array Value} {G : Nat → Value → World → Prop} {sr : Nat → Nat} {w0 w : World} {L : Nat → Bool} {xs : Nat → Value}
theorem LayG.start (h : ∀ i, i < m + n + n → L i = false) : LayG m n ty z G sr w0 L xs { w0 with drawn := w0.drawn + 1 } := by
  have f : ∀ i, i < m + n + n → L i = true → False := fun i hi ht => by rw [h i hi] at ht; cases ht
  exact ⟨⟨rfl, rfl, rfl, Nat.le_refl _, fun _ _ => rfl⟩, fun i hi ht => (f i (by omega) ht).elim, fun j hj ht => (f _ (by omega) ht).elim, fun j k hj hk _ ht _ => (f _ (by omega) ht).elim, fun j hj ht => (f _ (by omega) ht).elim⟩
theorem LayG.below (h : LayG m n ty z G sr w0 L xs w) : Below w0.heap.size w0 w := h.1
theorem LayG.set (hs : GSt ty G) (h : LayG m n ty z G sr w0 L xs w) (i : Nat) (hi : i < m) {w' : World} (hb : Below w.heap.size w w') {v : Value} (hv : G i v w') : LayG m n ty z G sr w0 (fun j => if j = i then true else L j) (fun j => if j = i then v else xs j) w' := by
  obtain ⟨h0, h1, h2, h3, h4⟩ := h
  refine ⟨h0.trans (hb.mono h0.size), fun j hj ht => ?_, fun j hj ht => ?_, fun j k hj hk => ?_, fun j hj => ?_⟩
  · by_cases e : j = i
    · subst e; simpa using hv
    · simp only [if_neg e] at ht ⊢
      exact hs.grow _ _ _ _ (h1 j hj ht) hb
  · simp only [if_neg (show ¬ m + j = i by omega), if_neg (show ¬ m + n + j = i by omega)] at ht ⊢
    obtain ⟨g, cs, e1, e2, e3, e4⟩ := h2 j hj ht
    refine ⟨g, cs, e1, e2, heap_below e3 hb, ?_⟩
    split at e4
    · rename_i hL; rw [if_pos hL]; exact hs.grow _ _ _ _ e4 hb
    · rename_i hL; rw [if_neg hL]; exact e4
  · simp only [if_neg (show ¬ m + j = i by omega), if_neg (show ¬ m + k = i by omega)]
    exact h3 j k hj hk
  · simp only [if_neg (show ¬ m + j = i by omega), if_neg (show ¬ m + n + j = i by omega)]
    exact h4 j hj
theorem LayG.alloc (hs : GSt ty G) (h : LayG m n ty z G sr w0 L xs w) (j : Nat) (hj : j < n) {k : Nat} (hk : k = m + j) (hn : L k = false) : LayG m n ty z G sr w0 (fun i => if i = k then true else L i) (fun i => if i = k then .pointer (some ⟨w.heap.size, 0, none⟩) else xs i) (w.alloc (.cells z ty)) := by
  subst hk
  obtain ⟨h0, h1, h2, h3, h4⟩ := h
  have kb := alloc_below w (.cells z ty)
  have hf : L (m + n + j) = false := by
    cases hx : L (m + n + j) with
    | false => rfl
    | true => rw [h4 j hj hx] at hn; cases hn
  have hne : ∀ i, i < n → L (m + i) = true → xs (m + i) ≠ .pointer (some ⟨w.heap.size, 0, none⟩) := fun i hi ht => by
    obtain ⟨g, cs, e1, e2, e3, e4⟩ := h2 i hi ht
    rw [e1]
    have := (Array.getElem?_eq_some_iff.1 e3).1
    intro e
    simp at e
    try omega
  refine ⟨h0.trans (kb.mono h0.size), fun i hi ht => ?_, fun i hi ht => ?_, fun i k hi hk hne2 hti htk => ?_, fun i hi ht => ?_⟩
  · simp only [if_neg (show ¬ i = m + j by omega)] at ht ⊢
    exact hs.grow _ _ _ _ (h1 i hi ht) kb
  · by_cases e : i = j
    · subst e
      simp only [if_neg (show ¬ m + n + i = m + i by omega), hf, if_pos]
      exact ⟨_, z, rfl, h0.size, heap_alloc_new w _, by simp⟩
    · simp only [if_neg (show ¬ m + i = m + j by omega), if_neg (show ¬ m + n + i = m + j by omega)] at ht ⊢
      obtain ⟨g, cs, e1, e2, e3, e4⟩ := h2 i hi ht
      refine ⟨g, cs, e1, e2, heap_below e3 kb, ?_⟩
      split at e4
      · rename_i hL; rw [if_pos hL]; exact hs.grow _ _ _ _ e4 kb
      · rename_i hL; rw [if_neg hL]; exact e4
  · by_cases e1 : i = j
    · subst e1
      simp only [if_neg (show ¬ m + k = m + i by omega), if_pos] at htk ⊢
      exact (hne k hk htk).symm
    · by_cases e2 : k = j
      · subst e2
        simp only [if_neg (show ¬ m + i = m + k by omega), if_pos] at hti ⊢
        exact hne i hi hti
      · simp only [if_neg (show ¬ m + i = m + j by omega), if_neg (show ¬ m + k = m + j by omega)] at hti htk ⊢
        exact h3 i k hi hk hne2 hti htk
  · by_cases e : i = j
    · subst e; simp
    · simp only [if_neg (show ¬ m + i = m + j by omega), if_neg (show ¬ m + n + i = m + j by omega)] at ht ⊢
      exact h4 i hi ht
theorem LayG.store (hs : GSt ty G) (h : LayG m n ty z G sr w0 L xs w) (j : Nat) (hj : j < n) {k s : Nat} (hk : k = m + j) (hse : s = m + n + j) (hL : L k = true) {g : Nat} (hg : xs k = .pointer (some ⟨g, 0, none⟩)) {cs : Array Value} (hv : G (sr j) (.agg cs) w) {w2 : World} (hw : Wrote g cs ty w w2) (v : Value) :
    LayG m n ty z G sr w0 (fun i => if i = s then true else L i) (fun i => if i = s then v else xs i) w2 := by
  subst hk hse
  obtain ⟨h0, h1, h2, h3, h4⟩ := h
  obtain ⟨g', ds, e1, hB, hgd, -⟩ := h2 j hj hL
  obtain rfl : g' = g := by
    rw [hg] at e1
    injection e1 with e1
    injection e1 with e1
    injection e1 with e1
    exact e1.symm
  have hl := Nat.le_of_lt (Array.getElem?_eq_some_iff.1 hgd).1
  refine ⟨h0.trans (hw.below hB hl), fun i hi ht => ?_, fun i hi ht => ?_, fun i k hi hk hne hti htk => ?_, fun i hi ht => ?_⟩
  · simp only [if_neg (show ¬ i = m + n + j by omega)] at ht ⊢
    exact hs.wrote _ _ _ _ _ _ _ hgd hw (h1 i hi ht)
  · simp only [if_neg (show ¬ m + i = m + n + j by omega)] at ht ⊢
    by_cases e : i = j
    · subst e
      simp only [if_pos]
      exact ⟨g', cs, hg, hB, hw.cell, hs.wrote _ _ _ _ _ _ _ hgd hw hv⟩
    · simp only [if_neg (show ¬ m + n + i = m + n + j by omega)]
      obtain ⟨g2, c2, f1, f2, f3, f4⟩ := h2 i hi ht
      have hne := h3 i j hi hj e ht hL
      have hg2 : g2 ≠ g' := by rintro rfl; exact hne (f1.trans hg.symm)
      refine ⟨g2, c2, f1, f2, (hw.rest g2 (Array.getElem?_eq_some_iff.1 f3).1 hg2).trans f3, ?_⟩
      split at f4
      · rename_i hL2; rw [if_pos hL2]; exact hs.wrote _ _ _ _ _ _ _ hgd hw f4
      · rename_i hL2; rw [if_neg hL2]; exact f4
  · simp only [if_neg (show ¬ m + i = m + n + j by omega), if_neg (show ¬ m + k = m + n + j by omega)] at hti htk ⊢
    exact h3 i k hi hk hne hti htk
  · by_cases e : i = j
    · subst e
      simp only [if_neg (show ¬ m + i = m + n + i by omega)]
      exact hL
    · simp only [if_neg (show ¬ m + i = m + n + j by omega), if_neg (show ¬ m + n + i = m + n + j by omega)] at ht ⊢
      exact h4 i hi ht
theorem LayG.other (h : LayG m n ty z G sr w0 L xs w) (i : Nat) (hi : m + n + n ≤ i) (v : Value) : LayG m n ty z G sr w0 (fun j => if j = i then true else L j) (fun j => if j = i then v else xs j) w := by
  obtain ⟨h0, h1, h2, h3, h4⟩ := h
  refine ⟨h0, fun j hj ht => ?_, fun j hj ht => ?_, fun j k hj hk => ?_, fun j hj => ?_⟩
  · simp only [if_neg (show ¬ j = i by omega)] at ht ⊢; exact h1 j hj ht
  · simp only [if_neg (show ¬ m + j = i by omega), if_neg (show ¬ m + n + j = i by omega)] at ht ⊢; exact h2 j hj ht
  · simp only [if_neg (show ¬ m + j = i by omega), if_neg (show ¬ m + k = i by omega)]; exact h3 j k hj hk
  · simp only [if_neg (show ¬ m + j = i by omega), if_neg (show ¬ m + n + j = i by omega)]; exact h4 j hj
end
end Go.Proofs.Ytdjhiaogpgaboaa
end

section
namespace Go.Proofs.Ytdjhiaogpgaboaa
open Go.RowKit Go Go.Sort
set_option linter.unusedVariables false
set_option maxRecDepth 20000

theorem rfq_eqIn (s k b t u s' k' b' t' u' : Int) (W : World) : (Op.equalIn 10000 29 (.agg #[.int .i64 s, .int .i64 k, .int .i64 b, .int .i64 t, .int .i64 u]) (.agg #[.int .i64 s', .int .i64 k', .int .i64 b', .int .i64 t', .int .i64 u'])).run Try.prog W = .ok ((s == s') && ((k == k') && ((b == b') && ((t == t') && (u == u'))))) W := by
  rw [run_equalIn_struct W 9999 _ _ _ Try.underlying29 (by kernel_rfl)]
  obtain ⟨f0, f1, f2, f3, f4, hf, h0, h1, h2, h3, h4, t0, t1, t2, t3, t4, n0, n1, n2, n3, n4⟩ : ∃ f0 f1 f2 f3 f4, (Try.prog.fieldsOf 29).toList = [f0, f1, f2, f3, f4] ∧ f0.offset = 0 ∧ f1.offset = 1 ∧ f2.offset = 2 ∧ f3.offset = 3 ∧ f4.offset = 4 ∧ f0.type = 3 ∧ f1.type = 3 ∧ f2.type = 3 ∧ f3.type = 3 ∧ f4.type = 3 ∧ f0.name ≠ "_" ∧ f1.name ≠ "_" ∧ f2.name ≠ "_" ∧ f3.name ≠ "_" ∧ f4.name ≠ "_" := ⟨_, _, _, _, _, rfl, rfl, rfl, rfl, rfl, rfl, rfl, rfl, rfl, rfl, rfl, by decide, by decide, by decide, by decide, by decide⟩
  rw [hf]
  have p0 := srun_part_int (W := W) #[.int .i64 s, .int .i64 k, .int .i64 b, .int .i64 t, .int .i64 u] 0 rfl
  have p1 := srun_part_int (W := W) #[.int .i64 s, .int .i64 k, .int .i64 b, .int .i64 t, .int .i64 u] 1 rfl
  have p2 := srun_part_int (W := W) #[.int .i64 s, .int .i64 k, .int .i64 b, .int .i64 t, .int .i64 u] 2 rfl
  have p3 := srun_part_int (W := W) #[.int .i64 s, .int .i64 k, .int .i64 b, .int .i64 t, .int .i64 u] 3 rfl
  have p4 := srun_part_int (W := W) #[.int .i64 s, .int .i64 k, .int .i64 b, .int .i64 t, .int .i64 u] 4 rfl
  have q0 := srun_part_int (W := W) #[.int .i64 s', .int .i64 k', .int .i64 b', .int .i64 t', .int .i64 u'] 0 rfl
  have q1 := srun_part_int (W := W) #[.int .i64 s', .int .i64 k', .int .i64 b', .int .i64 t', .int .i64 u'] 1 rfl
  have q2 := srun_part_int (W := W) #[.int .i64 s', .int .i64 k', .int .i64 b', .int .i64 t', .int .i64 u'] 2 rfl
  have q3 := srun_part_int (W := W) #[.int .i64 s', .int .i64 k', .int .i64 b', .int .i64 t', .int .i64 u'] 3 rfl
  have q4 := srun_part_int (W := W) #[.int .i64 s', .int .i64 k', .int .i64 b', .int .i64 t', .int .i64 u'] 4 rfl
  cases e0 : (s == s') <;> cases e1 : (k == k') <;> cases e2 : (b == b') <;> cases e3 : (t == t') <;> cases e4 : (u == u') <;> simp [Op.eqFields, n0, n1, n2, n3, n4, h0, h1, h2, h3, h4, t0, t1, t2, t3, t4, p0, q0, p1, q1, p2, q2, p3, q3, p4, q4, e0, e1, e2, e3, e4, run_equalIn_int W 9998 3 .i64 .i64 _ _ Try.underlying3, Sem.run_bind, Result.andThen_ok]
theorem rfq_eqg (op : BinOp) (x y : Operand) (xs ys : Array Value) (W : World) : (eqGuard op 29 x y (.agg xs) (.agg ys)).run Try.prog W = .ok () W := run_eqGuard_agg W op _ x y xs ys (by kernel_rfl)
theorem rfq_eqb (s k b t u s' k' b' t' u' : Int) (R : Bool) (h : ((s == s') && ((k == k') && ((b == b') && ((t == t') && (u == u'))))) = R) (W : World) : (binOp .eql 29 (.agg #[.int .i64 s, .int .i64 k, .int .i64 b, .int .i64 t, .int .i64 u]) (.agg #[.int .i64 s', .int .i64 k', .int .i64 b', .int .i64 t', .int .i64 u'])).run Try.prog W = .ok (.bool R) W := by
  rw [run_eql_struct, rfq_eqIn, h]; rfl
set_option maxHeartbeats 6400000 in
theorem frlives_c (w : World) : Calls Try.prog 19 #[] w (Tells (.bool true) w) := by
  have H1 := Lib.hid (fun W => fnew_c 1 W)
  have H2 := Lib.hid (fun W => flearn_c 1 0 0 0 0 3 1 2 2 W)
  have H3 := Lib.hid (fun W => fsettle_c 1 2 0 2 2 3 2 W)
  rw [show newF 1 = (⟨1, 0, 0, 0, 0⟩, 0) by decide] at H1
  rw [show learnS ⟨1, 0, 0, 0, 0⟩ 3 1 2 2 = (⟨1, 2, 0, 2, 2⟩, 0) by decide] at H2
  rw [show settleS ⟨1, 2, 0, 2, 2⟩ 3 2 = (⟨1, 2, 2, 0, 0⟩, 0) by decide] at H3
  simp only [ftR] at H1 H2 H3
  go_enter Try.func19, Try.ntmps19
  go_upto_region 2 with (go_at_call 15; (with_reducible refine (H1.out _).mono ?_); rintro e1 w1 ⟨rfl, hb1⟩)
  have hf := Fb.new w1 23 1 0 0 0 0
  have hb := hb1.trans ((alloc_below w1 (.cells #[.int .i64 1, .int .i64 0, .int .i64 0, .int .i64 0, .int .i64 0] 23)).mono hb1.size)
  have HF1 := Lib.hid hf
  have HB1 := Lib.hid hb
  clear hf hb hb1
  obtain ⟨g1, hg1⟩ : ∃ q, w1.heap.size = q := ⟨_, rfl⟩
  rw [hg1] at HF1 ⊢
  clear hg1
  generalize w1.alloc (.cells #[.int .i64 1, .int .i64 0, .int .i64 0, .int .i64 0, .int .i64 0] 23) = W1 at *
  obtain ⟨c0, c1, c2, c3, c4⟩ := HF1.out.cs
  go_upto_region 3 with (go_at_call 8; (with_reducible refine (H2.out _).mono ?_); rintro e2 w2 ⟨rfl, hb2⟩)
  have hf := Fb.new w2 23 1 2 0 2 2
  have hb := HB1.out.trans ((hb2.trans ((alloc_below w2 (.cells #[.int .i64 1, .int .i64 2, .int .i64 0, .int .i64 2, .int .i64 2] 23)).mono hb2.size)).mono HB1.out.size)
  have HF2 := Lib.hid hf
  have HB2 := Lib.hid hb
  clear hf hb hb2 c0 c1 c2 c3 c4 HB1 HF1
  obtain ⟨g2, hg2⟩ : ∃ q, w2.heap.size = q := ⟨_, rfl⟩
  rw [hg2] at HF2 ⊢
  clear hg2
  generalize w2.alloc (.cells #[.int .i64 1, .int .i64 2, .int .i64 0, .int .i64 2, .int .i64 2] 23) = W2 at *
  obtain ⟨c0, c1, c2, c3, c4⟩ := HF2.out.cs
  go_upto_region 4 with (go_at_call 11; (with_reducible refine (H3.out _).mono ?_); rintro e3 w3 ⟨rfl, hb3⟩)
  have hf := Fb.new w3 23 1 2 2 0 0
  have hb4 := hb3.trans ((alloc_below w3 (.cells #[.int .i64 1, .int .i64 2, .int .i64 2, .int .i64 0, .int .i64 0] 23)).mono hb3.size)
  have HF3 := Lib.hid hf
  have HF2 := Lib.hid (HF2.out.kept hb4)
  have HB3 := Lib.hid (HB2.out.trans (hb4.mono HB2.out.size))
  clear hf hb3 hb4 c0 c1 c2 c3 c4 HB2
  obtain ⟨g3, hg3⟩ : ∃ q, w3.heap.size = q := ⟨_, rfl⟩
  rw [hg3] at HF3 ⊢
  clear hg3
  generalize w3.alloc (.cells #[.int .i64 1, .int .i64 2, .int .i64 2, .int .i64 0, .int .i64 0] 23) = W3 at *
  obtain ⟨c0, c1, c2, c3, c4⟩ := HF2.out.cs
  obtain ⟨d0, d1, d2, d3, d4⟩ := HF3.out.cs
  go_wp2
  go_ret
  exact ⟨rfl, HB3.out⟩
theorem Wrote.five {W : World} {g : Nat} {ty : TypeId} {s k b t u : Int} (h : Fb W g ty s k b t u) (n0 n1 n2 n3 n4 : Int) : Wrote g #[.int .i64 n0, .int .i64 n1, .int .i64 n2, .int .i64 n3, .int .i64 n4] ty W (((((W.setCell ⟨g, 0, none⟩ (.int .i64 n0)).setCell ⟨g, 1, none⟩ (.int .i64 n1)).setCell ⟨g, 2, none⟩ (.int .i64 n2)).setCell ⟨g, 3, none⟩ (.int .i64 n3)).setCell ⟨g, 4, none⟩ (.int .i64 n4)) := by
  have ho : OnlyV (.slice (some ⟨g, 0, none⟩) 1 1) W _ := (((((OnlyV.refl _ W).cell 0 (.int .i64 n0)).cell 1 (.int .i64 n1)).cell 2 (.int .i64 n2)).cell 3 (.int .i64 n3)).cell 4 (.int .i64 n4)
  exact ⟨ho.os, ho.tape, ho.output, Nat.le_of_eq ho.size.symm, h.fill n0 n1 n2 n3 n4, fun k hk hne => ho.rest k (fun e => hne (by injection e))⟩
theorem Wrote.two {W : World} {g : Nat} {ty : TypeId} {a b : Int} (h : Pair W g ty a b) (n0 n1 : Int) : Wrote g #[.int .i64 n0, .int .i64 n1] ty W ((W.setCell ⟨g, 0, none⟩ (.int .i64 n0)).setCell ⟨g, 1, none⟩ (.int .i64 n1)) := by
  have ho : OnlyV (.slice (some ⟨g, 0, none⟩) 1 1) W _ := ((OnlyV.refl _ W).cell 0 (.int .i64 n0)).cell 1 (.int .i64 n1)
  exact ⟨ho.os, ho.tape, ho.output, Nat.le_of_eq ho.size.symm, (h.set0 n0).set1 n1, fun k hk hne => ho.rest k (fun e => hne (by injection e))⟩
set_option maxRecDepth 100000 in
set_option maxHeartbeats 12800000 in
theorem flearns_walk (s k b t u x y a0 a1 : Int) (w : World) : Calls Try.prog 3 #[.agg #[.int .i64 s, .int .i64 k, .int .i64 b, .int .i64 t, .int .i64 u], .agg #[.int .i64 x, .int .i64 y], .agg #[.int .i64 a0, .int .i64 a1]] w (Tells (.bool true) w) := by
  have H1 := fun W => flearn_c s k b t u x y a0 a1 W
  have H2 := fun W => rflearn_c s k b t u x y a0 a1 W
  have H3 := fun W => fsettle_c s k b t u x y W
  have H4 := fun W => rfsettle_c s k b t u x y W
  have H5 := fun W => fstable_c s k b t u x y W
  have H6 := fun W => rfstable_c s k b t u x y W
  have H7 := fun W => fnew_c s W
  have H8 := fun W => rfnew_c s W
  have H9 := fun W => fgood_c s k b t u W
  have HA := fun W => rfgood_c s k b t u W
  have HO := Lib.hid fof_c
  have HLV := Lib.hid frlives_c
  obtain ⟨⟨⟨ls, lk, lb, lt, lu⟩, le⟩, hl⟩ : ∃ q, learnS ⟨s, k, b, t, u⟩ x y a0 a1 = q := ⟨_, rfl⟩
  obtain ⟨⟨⟨ss, sk, sb, st, su⟩, se⟩, hs⟩ : ∃ q, settleS ⟨s, k, b, t, u⟩ x y = q := ⟨_, rfl⟩
  obtain ⟨⟨⟨vx, vy⟩, ve⟩, hv⟩ : ∃ q, stabS ⟨s, k, b, t, u⟩ x y = q := ⟨_, rfl⟩
  obtain ⟨⟨⟨ns, nk, nb, nt, nu⟩, ne⟩, hn⟩ : ∃ q, newF s = q := ⟨_, rfl⟩
  obtain ⟨R, hr⟩ : ∃ q, Ft.good ⟨s, k, b, t, u⟩ = q := ⟨_, rfl⟩
  rw [hl] at H1 H2
  rw [hs] at H3 H4
  rw [hv] at H5 H6
  rw [hn] at H7 H8
  rw [hr] at H9 HA
  simp only [ftR, stR] at H1 H2 H3 H4 H5 H6 H7 H8
  have H1 := Lib.hid H1
  have H2 := Lib.hid H2
  have H3 := Lib.hid H3
  have H4 := Lib.hid H4
  have H5 := Lib.hid H5
  have H6 := Lib.hid H6
  have H7 := Lib.hid H7
  have H8 := Lib.hid H8
  have H9 := Lib.hid H9
  have HA := Lib.hid HA
  clear hl hs hv hn hr
  have h1 := Fb.new w 23 s k b t u
  have b1 := alloc_below w (.cells #[.int .i64 s, .int .i64 k, .int .i64 b, .int .i64 t, .int .i64 u] 23)
  go_enter Try.func3, Try.ntmps3
  go_upto_region 1 with (fail)
  have z1 := World.size_alloc w (.cells #[.int .i64 s, .int .i64 k, .int .i64 b, .int .i64 t, .int .i64 u] 23)
  generalize w.alloc (.cells #[.int .i64 s, .int .i64 k, .int .i64 b, .int .i64 t, .int .i64 u] 23) = W1 at *
  have h2 := Pair.new W1 25 x y
  have b2 := alloc_below W1 (.cells #[.int .i64 x, .int .i64 y] 25)
  have z2 := World.size_alloc W1 (.cells #[.int .i64 x, .int .i64 y] 25)
  generalize W1.alloc (.cells #[.int .i64 x, .int .i64 y] 25) = W2 at *
  have h3 := Pair.new W2 24 a0 a1
  have b3 := alloc_below W2 (.cells #[.int .i64 a0, .int .i64 a1] 24)
  generalize W2.alloc (.cells #[.int .i64 a0, .int .i64 a1] 24) = W3 at *
  rw [z2, z1] at h3
  rw [z1] at h2
  have HF := Lib.hid ((h1.kept b2).kept b3)
  have HV := Lib.hid (h2.kept b3)
  have HT := Lib.hid h3
  have HB := Lib.hid ((b1.trans (b2.mono b1.size)).trans (b3.mono (b1.trans (b2.mono b1.size)).size))
  clear h1 b1 z1 h2 b2 z2 h3 b3
  obtain ⟨c0, c1, c2, c3, c4⟩ := HF.out.cs
  have v0 := HV.out.c0
  have v1 := HV.out.c1
  have t0 := HT.out.c0
  have t1 := HT.out.c1
  go_upto_region 2 with (go_at_call 8; (with_reducible refine (H1.out _).mono ?_); rintro e9 w9 ⟨rfl, hb9⟩)
  clear c0 c1 c2 c3 c4 v0 v1 t0 t1
  have HF := Lib.hid (HF.out.kept hb9)
  have HV := Lib.hid (HV.out.kept hb9)
  have HT := Lib.hid (HT.out.kept hb9)
  have HB := Lib.hid (HB.out.trans (hb9.mono HB.out.size))
  clear hb9
  have hx := Fb.new w9 23 ls lk lb lt lu
  have hbx := alloc_below w9 (.cells #[.int .i64 ls, .int .i64 lk, .int .i64 lb, .int .i64 lt, .int .i64 lu] 23)
  have HF := Lib.hid (HF.out.kept hbx)
  have HV := Lib.hid (HV.out.kept hbx)
  have HT := Lib.hid (HT.out.kept hbx)
  have HB := Lib.hid (HB.out.trans (hbx.mono HB.out.size))
  obtain ⟨gB1, hgB1⟩ : ∃ q, w9.heap.size = q := ⟨_, rfl⟩
  rw [hgB1] at hx ⊢
  have B1 := Lib.hid hx
  clear hx hbx hgB1
  generalize w9.alloc (.cells #[.int .i64 ls, .int .i64 lk, .int .i64 lb, .int .i64 lt, .int .i64 lu] 23) = XB1 at *
  have HGS := Lib.hid (show GSt 29 (fun i v _ => v = [.agg #[.int .i64 s, .int .i64 k, .int .i64 b, .int .i64 t, .int .i64 u], .agg #[.int .i64 s, .int .i64 k, .int .i64 b, .int .i64 t, .int .i64 u], .agg #[.int .i64 x, .int .i64 y], .pointer (some ⟨w.heap.size + 1 + 1, 0, none⟩), .int .i64 a0, .pointer (some ⟨w.heap.size + 1 + 1, 1, none⟩), .int .i64 a1, .tuple #[.agg #[.int .i64 ls, .int .i64 lk, .int .i64 lb, .int .i64 lt, .int .i64 lu], .int .i64 le], .tuple #[.agg #[.int .i64 ls, .int .i64 lk, .int .i64 lb, .int .i64 lt, .int .i64 lu], .int .i64 le], .agg #[.int .i64 ls, .int .i64 lk, .int .i64 lb, .int .i64 lt, .int .i64 lu], .int .i64 le].getD i undef) from ⟨fun i v X Y h _ => h, fun i v X Y q cs ds _ _ h => h⟩)
  refine wp_region_inv [none, none, none, none, none, none, none, none, none, some 11, some 13, none, none, none, none, none, none, none, none, none, none, none, none, none, none, none, none, none, none, none, none, none, none, some 8, some 0, some 1, some 2, some 3, some 4, some 5, some 6, some 7, some 9, some 10, none, none, none, none, none, none, none, none, none, none, none, none, none, none, none, none, none, none, none, none, none, none, none, none, none, none, none, none, none, none, none, none, none, none, none, none, none, none, none, none, none, none, none, none, none, none, none, none, none, none, none, none, none, none, none, none, none, none, none, none, none, none, none, none, none, none, none, none, none, none, none, none, none, none, none, none, none, none, none, none, none, none, none, none, none, none, none, none, none, none] (fun _ => undef) (fun L xs W => LayG 11 1 29 #[.int .i64 0, .int .i64 0, .int .i64 0, .int .i64 0, .int .i64 0] (fun i v _ => v = [.agg #[.int .i64 s, .int .i64 k, .int .i64 b, .int .i64 t, .int .i64 u], .agg #[.int .i64 s, .int .i64 k, .int .i64 b, .int .i64 t, .int .i64 u], .agg #[.int .i64 x, .int .i64 y], .pointer (some ⟨w.heap.size + 1 + 1, 0, none⟩), .int .i64 a0, .pointer (some ⟨w.heap.size + 1 + 1, 1, none⟩), .int .i64 a1, .tuple #[.agg #[.int .i64 ls, .int .i64 lk, .int .i64 lb, .int .i64 lt, .int .i64 lu], .int .i64 le], .tuple #[.agg #[.int .i64 ls, .int .i64 lk, .int .i64 lb, .int .i64 lt, .int .i64 lu], .int .i64 le], .agg #[.int .i64 ls, .int .i64 lk, .int .i64 lb, .int .i64 lt, .int .i64 lu], .int .i64 le].getD i undef) (fun _ => 9) XB1 L xs W ∧ (L 13 = true → xs 13 = .int .i64 le)) (by kernel_rfl) (by kernel_rfl) rfl rfl (fun LL hL => ⟨LayG.start fun i hi => hL i (Nat.lt_of_lt_of_le hi (by decide)), fun h => by rw [hL 13 (by decide)] at h; cases h⟩) ?_ ?_
  · simp only [invOps, and_true]
    refine ⟨?_, ?_, ?_, ?_, ?_, ?_, ?_, ?_, ?_, ?_, ?_, ?_, ?_, ?_⟩
    · intro LL xs W ⟨hI, hJ⟩ hL hn
      obtain ⟨c0, c1, c2, c3, c4⟩ := (HF.out.kept hI.below).cs
      simp only [flowAct, List.zipWith_cons_cons, List.zipWith_nil_left]
      go_wp2_with (fail)
      exact ⟨rfl, _, rfl, ⟨hI.set HGS.out 0 (by decide) (Below.refl _ _) rfl, fun h => hJ h⟩⟩
    · intro LL xs W ⟨hI, hJ⟩ hL hn
      simp [invNeeds, Region.binds] at hn
      have e0 : xs 0 = .agg #[.int .i64 s, .int .i64 k, .int .i64 b, .int .i64 t, .int .i64 u] := hI.2.1 0 (by decide) (by simp only [hn])
      simp only [flowAct, List.zipWith_cons_cons, List.zipWith_nil_left]
      simp only [e0]
      go_wp2_with (go_at_call 10; (with_reducible refine (HO.out _ _ _ _ _ _).mono ?_); rintro e9 w9 ⟨rfl, hb9⟩)
      exact ⟨rfl, _, rfl, ⟨hI.set HGS.out 1 (by decide) hb9 rfl, fun h => hJ h⟩⟩
    · intro LL xs W ⟨hI, hJ⟩ hL hn
      have v0 := (HV.out.kept hI.below).c0
      have v1 := (HV.out.kept hI.below).c1
      simp only [flowAct, List.zipWith_cons_cons, List.zipWith_nil_left]
      go_wp2_with (fail)
      exact ⟨rfl, _, rfl, ⟨hI.set HGS.out 2 (by decide) (Below.refl _ _) rfl, fun h => hJ h⟩⟩
    · intro LL xs W ⟨hI, hJ⟩ hL hn
      simp only [flowAct, List.zipWith_cons_cons, List.zipWith_nil_left]
      go_wp2_with (fail)
      exact ⟨rfl, _, rfl, ⟨hI.set HGS.out 3 (by decide) (Below.refl _ _) rfl, fun h => hJ h⟩⟩
    · intro LL xs W ⟨hI, hJ⟩ hL hn
      have t0 := (HT.out.kept hI.below).c0
      have t1 := (HT.out.kept hI.below).c1
      simp [invNeeds, Region.binds] at hn
      have e3 : xs 3 = .pointer (some ⟨w.heap.size + 1 + 1, 0, none⟩) := hI.2.1 3 (by decide) (by simp only [hn])
      simp only [flowAct, List.zipWith_cons_cons, List.zipWith_nil_left]
      simp only [e3]
      go_wp2_with (fail)
      exact ⟨rfl, _, rfl, ⟨hI.set HGS.out 4 (by decide) (Below.refl _ _) rfl, fun h => hJ h⟩⟩
    · intro LL xs W ⟨hI, hJ⟩ hL hn
      simp only [flowAct, List.zipWith_cons_cons, List.zipWith_nil_left]
      go_wp2_with (fail)
      exact ⟨rfl, _, rfl, ⟨hI.set HGS.out 5 (by decide) (Below.refl _ _) rfl, fun h => hJ h⟩⟩
    · intro LL xs W ⟨hI, hJ⟩ hL hn
      have t0 := (HT.out.kept hI.below).c0
      have t1 := (HT.out.kept hI.below).c1
      simp [invNeeds, Region.binds] at hn
      have e5 : xs 5 = .pointer (some ⟨w.heap.size + 1 + 1, 1, none⟩) := hI.2.1 5 (by decide) (by simp only [hn])
      simp only [flowAct, List.zipWith_cons_cons, List.zipWith_nil_left]
      simp only [e5]
      go_wp2_with (fail)
      exact ⟨rfl, _, rfl, ⟨hI.set HGS.out 6 (by decide) (Below.refl _ _) rfl, fun h => hJ h⟩⟩
    · intro LL xs W ⟨hI, hJ⟩ hL hn
      simp [invNeeds, Region.binds] at hn
      have e1 : xs 1 = .agg #[.int .i64 s, .int .i64 k, .int .i64 b, .int .i64 t, .int .i64 u] := hI.2.1 1 (by decide) (by simp only [hn])
      have e2 : xs 2 = .agg #[.int .i64 x, .int .i64 y] := hI.2.1 2 (by decide) (by simp only [hn])
      have e4 : xs 4 = .int .i64 a0 := hI.2.1 4 (by decide) (by simp only [hn])
      have e6 : xs 6 = .int .i64 a1 := hI.2.1 6 (by decide) (by simp only [hn])
      simp only [flowAct, List.zipWith_cons_cons, List.zipWith_nil_left]
      simp only [e1, e2, e4, e6]
      go_wp2_with (go_at_call 9; (with_reducible refine (H2.out _).mono ?_); rintro e9 w9 ⟨rfl, hb9⟩)
      exact ⟨rfl, _, rfl, ⟨hI.set HGS.out 7 (by decide) hb9 rfl, fun h => hJ h⟩⟩
    · intro LL xs W ⟨hI, hJ⟩ hL hn
      simp [invNeeds, Region.binds] at hn
      have e7 : xs 7 = .tuple #[.agg #[.int .i64 ls, .int .i64 lk, .int .i64 lb, .int .i64 lt, .int .i64 lu], .int .i64 le] := hI.2.1 7 (by decide) (by simp only [hn])
      simp only [flowAct, List.zipWith_cons_cons, List.zipWith_nil_left]
      simp only [e7]
      go_wp2_with (fail)
      exact ⟨rfl, _, rfl, ⟨hI.set HGS.out 8 (by decide) (Below.refl _ _) rfl, fun h => hJ h⟩⟩
    · intro LL xs W ⟨hI, hJ⟩ hL hn
      simp [invNeeds, Region.binds] at hn
      have e8 : xs 8 = .tuple #[.agg #[.int .i64 ls, .int .i64 lk, .int .i64 lb, .int .i64 lt, .int .i64 lu], .int .i64 le] := hI.2.1 8 (by decide) (by simp only [hn])
      simp only [flowAct, List.zipWith_cons_cons, List.zipWith_nil_left]
      simp only [e8]
      go_wp2_with (fail)
      exact ⟨rfl, _, rfl, ⟨hI.set HGS.out 9 (by decide) (Below.refl _ _) rfl, fun h => hJ h⟩⟩
    · intro LL xs W ⟨hI, hJ⟩ hL hn
      simp [invNeeds, Region.binds] at hn
      have e8 : xs 8 = .tuple #[.agg #[.int .i64 ls, .int .i64 lk, .int .i64 lb, .int .i64 lt, .int .i64 lu], .int .i64 le] := hI.2.1 8 (by decide) (by simp only [hn])
      simp only [flowAct, List.zipWith_cons_cons, List.zipWith_nil_left]
      simp only [e8]
      go_wp2_with (fail)
      exact ⟨rfl, _, rfl, ⟨hI.set HGS.out 10 (by decide) (Below.refl _ _) rfl, fun h => hJ h⟩⟩
    · intro LL xs W ⟨hI, hJ⟩ hL hn
      simp only [flowAct, List.zipWith_cons_cons, List.zipWith_nil_left]
      go_wp2_with (fail)
      exact ⟨rfl, _, rfl, ⟨hI.alloc HGS.out 0 (by decide) rfl hL, fun h => hJ h⟩⟩
    · intro LL xs W ⟨hI, hJ⟩ hL hn
      simp [invNeeds, Region.binds] at hn
      obtain ⟨hk, hv⟩ : LL 11 = true ∧ LL 9 = true := by simp only [hn, and_self]
      obtain ⟨g5, cs5, eg, lg, hgc, hz5⟩ := hI.2.2.1 0 (by decide) hk
      rw [if_neg (by rw [show LL (11 + 1 + 0) = false from hL]; decide)] at hz5
      subst hz5
      have e0 : xs 9 = .agg #[.int .i64 ls, .int .i64 lk, .int .i64 lb, .int .i64 lt, .int .i64 lu] := hI.2.1 9 (by decide) hv
      have e1 : xs 11 = .pointer (some ⟨g5, 0, none⟩) := eg
      have hc5 : Fb W g5 29 0 0 0 0 0 := hgc
      obtain ⟨p0, p1, p2, p3, p4⟩ := hc5.cs
      have q0 := hc5.fz 0
      have q1 := hc5.fz 1
      have q2 := hc5.fz 2
      have q3 := hc5.fz 3
      have q4 := hc5.fz 4
      simp only [flowAct, List.zipWith_cons_cons, List.zipWith_nil_left]
      simp only [e0, e1]
      go_wp2_with (fail)
      exact ⟨rfl, undef, rfl, ⟨hI.store HGS.out 0 (by decide) rfl rfl hk eg rfl (Wrote.five hc5 ls lk lb lt lu) undef, fun h => hJ h⟩⟩
    · intro LL xs W ⟨hI, hJ⟩ hL hn
      simp [invNeeds, Region.binds] at hn
      have e9 : xs 10 = .int .i64 le := hI.2.1 10 (by decide) (by simp only [hn])
      simp only [flowAct, List.zipWith_cons_cons, List.zipWith_nil_left]
      simp only [e9]
      go_wp2_with (fail)
      exact ⟨rfl, _, rfl, ⟨hI.other 13 (by decide) _, fun _ => rfl⟩⟩
  · intro LL xs W ⟨hI, hJ⟩ hall
    obtain ⟨hW, hV, hP, -, -⟩ := hI
    obtain ⟨gB2, cs7, e7, l7, h7, g7⟩ := hP 0 (by decide) (hall 11 (by decide))
    rw [if_pos (hall (11 + 1 + 0) (by decide))] at g7
    have g7 : Value.agg cs7 = .agg #[.int .i64 ls, .int .i64 lk, .int .i64 lb, .int .i64 lt, .int .i64 lu] := g7
    injection g7 with g7
    subst g7
    clear g7
    replace e7 : xs 11 = _ := e7
    have e8 := hJ (hall 13 (by decide))
    clear hP hall hJ
    simp only [flowAct, List.zipWith_cons_cons, List.zipWith_nil_left]
    simp only [e7, e8]
    clear e7 e8 hV
    have HF := Lib.hid (HF.out.kept hW)
    have HV := Lib.hid (HV.out.kept hW)
    have HT := Lib.hid (HT.out.kept hW)
    have B1 := Lib.hid (B1.out.kept hW)
    have HB := Lib.hid (HB.out.trans (hW.mono HB.out.size))
    have B2 := Lib.hid (show Fb W gB2 29 ls lk lb lt lu from h7)
    clear h7 l7 HGS
    obtain ⟨XB2, hX⟩ : ∃ Z, W = Z := ⟨_, rfl⟩
    rw [hX] at HF HV HT B1 B2 HB ⊢
    clear hX hW
    go_upto_region 3 with (fail)
    obtain ⟨c0, c1, c2, c3, c4⟩ := HF.out.cs
    have v0 := HV.out.c0
    have v1 := HV.out.c1
    go_upto_region 4 with (go_at_call 11; (with_reducible refine (H3.out _).mono ?_); rintro e9 w9 ⟨rfl, hb9⟩)
    clear c0 c1 c2 c3 c4 v0 v1
    have HF := Lib.hid (HF.out.kept hb9)
    have HV := Lib.hid (HV.out.kept hb9)
    have HT := Lib.hid (HT.out.kept hb9)
    have B1 := Lib.hid (B1.out.kept hb9)
    have B2 := Lib.hid (B2.out.kept hb9)
    have HB := Lib.hid (HB.out.trans (hb9.mono HB.out.size))
    clear hb9
    have hx := Fb.new w9 23 ss sk sb st su
    have hbx := alloc_below w9 (.cells #[.int .i64 ss, .int .i64 sk, .int .i64 sb, .int .i64 st, .int .i64 su] 23)
    have HF := Lib.hid (HF.out.kept hbx)
    have HV := Lib.hid (HV.out.kept hbx)
    have HT := Lib.hid (HT.out.kept hbx)
    have B1 := Lib.hid (B1.out.kept hbx)
    have B2 := Lib.hid (B2.out.kept hbx)
    have HB := Lib.hid (HB.out.trans (hbx.mono HB.out.size))
    obtain ⟨gB3, hgB3⟩ : ∃ q, w9.heap.size = q := ⟨_, rfl⟩
    rw [hgB3] at hx ⊢
    have B3 := Lib.hid hx
    clear hx hbx hgB3
    generalize w9.alloc (.cells #[.int .i64 ss, .int .i64 sk, .int .i64 sb, .int .i64 st, .int .i64 su] 23) = XB3 at *
    have HGS := Lib.hid (show GSt 29 (fun i v _ => v = [.agg #[.int .i64 s, .int .i64 k, .int .i64 b, .int .i64 t, .int .i64 u], .agg #[.int .i64 s, .int .i64 k, .int .i64 b, .int .i64 t, .int .i64 u], .agg #[.int .i64 x, .int .i64 y], .tuple #[.agg #[.int .i64 ss, .int .i64 sk, .int .i64 sb, .int .i64 st, .int .i64 su], .int .i64 se], .tuple #[.agg #[.int .i64 ss, .int .i64 sk, .int .i64 sb, .int .i64 st, .int .i64 su], .int .i64 se], .agg #[.int .i64 ss, .int .i64 sk, .int .i64 sb, .int .i64 st, .int .i64 su], .int .i64 se].getD i undef) from ⟨fun i v X Y h _ => h, fun i v X Y q cs ds _ _ h => h⟩)
    refine wp_region_inv [none, none, none, none, none, none, none, none, none, none, none, none, none, some 7, some 9, none, none, none, none, none, none, none, none, none, none, none, none, none, none, none, none, none, none, none, none, none, none, none, none, none, none, none, none, none, none, none, none, none, none, none, some 4, some 0, some 1, some 2, some 3, some 5, some 6, none, none, none, none, none, none, none, none, none, none, none, none, none, none, none, none, none, none, none, none, none, none, none, none, none, none, none, none, none, none, none, none, none, none, none, none, none, none, none, none, none, none, none, none, none, none, none, none, none, none, none, none, none, none, none, none, none, none, none, none, none, none, none, none, none, none, none, none, none, none, none, none, none, none, none, none, none] (fun _ => undef) (fun L xs W => LayG 7 1 29 #[.int .i64 0, .int .i64 0, .int .i64 0, .int .i64 0, .int .i64 0] (fun i v _ => v = [.agg #[.int .i64 s, .int .i64 k, .int .i64 b, .int .i64 t, .int .i64 u], .agg #[.int .i64 s, .int .i64 k, .int .i64 b, .int .i64 t, .int .i64 u], .agg #[.int .i64 x, .int .i64 y], .tuple #[.agg #[.int .i64 ss, .int .i64 sk, .int .i64 sb, .int .i64 st, .int .i64 su], .int .i64 se], .tuple #[.agg #[.int .i64 ss, .int .i64 sk, .int .i64 sb, .int .i64 st, .int .i64 su], .int .i64 se], .agg #[.int .i64 ss, .int .i64 sk, .int .i64 sb, .int .i64 st, .int .i64 su], .int .i64 se].getD i undef) (fun _ => 5) XB3 L xs W ∧ (L 9 = true → xs 9 = .int .i64 se)) (by kernel_rfl) (by kernel_rfl) rfl rfl (fun LL hL => ⟨LayG.start fun i hi => hL i (Nat.lt_of_lt_of_le hi (by decide)), fun h => by rw [hL 9 (by decide)] at h; cases h⟩) ?_ ?_
    · simp only [invOps, and_true]
      refine ⟨?_, ?_, ?_, ?_, ?_, ?_, ?_, ?_, ?_, ?_⟩
      · intro LL xs W ⟨hI, hJ⟩ hL hn
        obtain ⟨c0, c1, c2, c3, c4⟩ := (HF.out.kept hI.below).cs
        simp only [flowAct, List.zipWith_cons_cons, List.zipWith_nil_left]
        go_wp2_with (fail)
        exact ⟨rfl, _, rfl, ⟨hI.set HGS.out 0 (by decide) (Below.refl _ _) rfl, fun h => hJ h⟩⟩
      · intro LL xs W ⟨hI, hJ⟩ hL hn
        simp [invNeeds, Region.binds] at hn
        have e0 : xs 0 = .agg #[.int .i64 s, .int .i64 k, .int .i64 b, .int .i64 t, .int .i64 u] := hI.2.1 0 (by decide) (by simp only [hn])
        simp only [flowAct, List.zipWith_cons_cons, List.zipWith_nil_left]
        simp only [e0]
        go_wp2_with (go_at_call 10; (with_reducible refine (HO.out _ _ _ _ _ _).mono ?_); rintro e9 w9 ⟨rfl, hb9⟩)
        exact ⟨rfl, _, rfl, ⟨hI.set HGS.out 1 (by decide) hb9 rfl, fun h => hJ h⟩⟩
      · intro LL xs W ⟨hI, hJ⟩ hL hn
        have v0 := (HV.out.kept hI.below).c0
        have v1 := (HV.out.kept hI.below).c1
        simp only [flowAct, List.zipWith_cons_cons, List.zipWith_nil_left]
        go_wp2_with (fail)
        exact ⟨rfl, _, rfl, ⟨hI.set HGS.out 2 (by decide) (Below.refl _ _) rfl, fun h => hJ h⟩⟩
      · intro LL xs W ⟨hI, hJ⟩ hL hn
        simp [invNeeds, Region.binds] at hn
        have e1 : xs 1 = .agg #[.int .i64 s, .int .i64 k, .int .i64 b, .int .i64 t, .int .i64 u] := hI.2.1 1 (by decide) (by simp only [hn])
        have e2 : xs 2 = .agg #[.int .i64 x, .int .i64 y] := hI.2.1 2 (by decide) (by simp only [hn])
        simp only [flowAct, List.zipWith_cons_cons, List.zipWith_nil_left]
        simp only [e1, e2]
        go_wp2_with (go_at_call 12; (with_reducible refine (H4.out _).mono ?_); rintro e9 w9 ⟨rfl, hb9⟩)
        exact ⟨rfl, _, rfl, ⟨hI.set HGS.out 3 (by decide) hb9 rfl, fun h => hJ h⟩⟩
      · intro LL xs W ⟨hI, hJ⟩ hL hn
        simp [invNeeds, Region.binds] at hn
        have e3 : xs 3 = .tuple #[.agg #[.int .i64 ss, .int .i64 sk, .int .i64 sb, .int .i64 st, .int .i64 su], .int .i64 se] := hI.2.1 3 (by decide) (by simp only [hn])
        simp only [flowAct, List.zipWith_cons_cons, List.zipWith_nil_left]
        simp only [e3]
        go_wp2_with (fail)
        exact ⟨rfl, _, rfl, ⟨hI.set HGS.out 4 (by decide) (Below.refl _ _) rfl, fun h => hJ h⟩⟩
      · intro LL xs W ⟨hI, hJ⟩ hL hn
        simp [invNeeds, Region.binds] at hn
        have e4 : xs 4 = .tuple #[.agg #[.int .i64 ss, .int .i64 sk, .int .i64 sb, .int .i64 st, .int .i64 su], .int .i64 se] := hI.2.1 4 (by decide) (by simp only [hn])
        simp only [flowAct, List.zipWith_cons_cons, List.zipWith_nil_left]
        simp only [e4]
        go_wp2_with (fail)
        exact ⟨rfl, _, rfl, ⟨hI.set HGS.out 5 (by decide) (Below.refl _ _) rfl, fun h => hJ h⟩⟩
      · intro LL xs W ⟨hI, hJ⟩ hL hn
        simp [invNeeds, Region.binds] at hn
        have e4 : xs 4 = .tuple #[.agg #[.int .i64 ss, .int .i64 sk, .int .i64 sb, .int .i64 st, .int .i64 su], .int .i64 se] := hI.2.1 4 (by decide) (by simp only [hn])
        simp only [flowAct, List.zipWith_cons_cons, List.zipWith_nil_left]
        simp only [e4]
        go_wp2_with (fail)
        exact ⟨rfl, _, rfl, ⟨hI.set HGS.out 6 (by decide) (Below.refl _ _) rfl, fun h => hJ h⟩⟩
      · intro LL xs W ⟨hI, hJ⟩ hL hn
        simp only [flowAct, List.zipWith_cons_cons, List.zipWith_nil_left]
        go_wp2_with (fail)
        exact ⟨rfl, _, rfl, ⟨hI.alloc HGS.out 0 (by decide) rfl hL, fun h => hJ h⟩⟩
      · intro LL xs W ⟨hI, hJ⟩ hL hn
        simp [invNeeds, Region.binds] at hn
        obtain ⟨hk, hv⟩ : LL 7 = true ∧ LL 5 = true := by simp only [hn, and_self]
        obtain ⟨g5, cs5, eg, lg, hgc, hz5⟩ := hI.2.2.1 0 (by decide) hk
        rw [if_neg (by rw [show LL (7 + 1 + 0) = false from hL]; decide)] at hz5
        subst hz5
        have e0 : xs 5 = .agg #[.int .i64 ss, .int .i64 sk, .int .i64 sb, .int .i64 st, .int .i64 su] := hI.2.1 5 (by decide) hv
        have e1 : xs 7 = .pointer (some ⟨g5, 0, none⟩) := eg
        have hc5 : Fb W g5 29 0 0 0 0 0 := hgc
        obtain ⟨p0, p1, p2, p3, p4⟩ := hc5.cs
        have q0 := hc5.fz 0
        have q1 := hc5.fz 1
        have q2 := hc5.fz 2
        have q3 := hc5.fz 3
        have q4 := hc5.fz 4
        simp only [flowAct, List.zipWith_cons_cons, List.zipWith_nil_left]
        simp only [e0, e1]
        go_wp2_with (fail)
        exact ⟨rfl, undef, rfl, ⟨hI.store HGS.out 0 (by decide) rfl rfl hk eg rfl (Wrote.five hc5 ss sk sb st su) undef, fun h => hJ h⟩⟩
      · intro LL xs W ⟨hI, hJ⟩ hL hn
        simp [invNeeds, Region.binds] at hn
        have e9 : xs 6 = .int .i64 se := hI.2.1 6 (by decide) (by simp only [hn])
        simp only [flowAct, List.zipWith_cons_cons, List.zipWith_nil_left]
        simp only [e9]
        go_wp2_with (fail)
        exact ⟨rfl, _, rfl, ⟨hI.other 9 (by decide) _, fun _ => rfl⟩⟩
    · intro LL xs W ⟨hI, hJ⟩ hall
      obtain ⟨hW, hV, hP, -, -⟩ := hI
      obtain ⟨gB4, cs7, e7, l7, h7, g7⟩ := hP 0 (by decide) (hall 7 (by decide))
      rw [if_pos (hall (7 + 1 + 0) (by decide))] at g7
      have g7 : Value.agg cs7 = .agg #[.int .i64 ss, .int .i64 sk, .int .i64 sb, .int .i64 st, .int .i64 su] := g7
      injection g7 with g7
      subst g7
      clear g7
      replace e7 : xs 7 = _ := e7
      have e8 := hJ (hall 9 (by decide))
      clear hP hall hJ
      simp only [flowAct, List.zipWith_cons_cons, List.zipWith_nil_left]
      simp only [e7, e8]
      clear e7 e8 hV
      have HF := Lib.hid (HF.out.kept hW)
      have HV := Lib.hid (HV.out.kept hW)
      have HT := Lib.hid (HT.out.kept hW)
      have B1 := Lib.hid (B1.out.kept hW)
      have B2 := Lib.hid (B2.out.kept hW)
      have B3 := Lib.hid (B3.out.kept hW)
      have HB := Lib.hid (HB.out.trans (hW.mono HB.out.size))
      have B4 := Lib.hid (show Fb W gB4 29 ss sk sb st su from h7)
      clear h7 l7 HGS
      obtain ⟨XB4, hX⟩ : ∃ Z, W = Z := ⟨_, rfl⟩
      rw [hX] at HF HV HT B1 B2 B3 B4 HB ⊢
      clear hX hW
      go_upto_region 5 with (fail)
      obtain ⟨c0, c1, c2, c3, c4⟩ := HF.out.cs
      have v0 := HV.out.c0
      have v1 := HV.out.c1
      go_upto_region 6 with (go_at_call 13; (with_reducible refine (H5.out _).mono ?_); rintro e9 w9 ⟨rfl, hb9⟩)
      clear c0 c1 c2 c3 c4 v0 v1
      have HF := Lib.hid (HF.out.kept hb9)
      have HV := Lib.hid (HV.out.kept hb9)
      have HT := Lib.hid (HT.out.kept hb9)
      have B1 := Lib.hid (B1.out.kept hb9)
      have B2 := Lib.hid (B2.out.kept hb9)
      have B3 := Lib.hid (B3.out.kept hb9)
      have B4 := Lib.hid (B4.out.kept hb9)
      have HB := Lib.hid (HB.out.trans (hb9.mono HB.out.size))
      clear hb9
      have hx := Pair.new w9 25 vx vy
      have hbx := alloc_below w9 (.cells #[.int .i64 vx, .int .i64 vy] 25)
      have HF := Lib.hid (HF.out.kept hbx)
      have HV := Lib.hid (HV.out.kept hbx)
      have HT := Lib.hid (HT.out.kept hbx)
      have B1 := Lib.hid (B1.out.kept hbx)
      have B2 := Lib.hid (B2.out.kept hbx)
      have B3 := Lib.hid (B3.out.kept hbx)
      have B4 := Lib.hid (B4.out.kept hbx)
      have HB := Lib.hid (HB.out.trans (hbx.mono HB.out.size))
      obtain ⟨gB5, hgB5⟩ : ∃ q, w9.heap.size = q := ⟨_, rfl⟩
      rw [hgB5] at hx ⊢
      have B5 := Lib.hid hx
      clear hx hbx hgB5
      generalize w9.alloc (.cells #[.int .i64 vx, .int .i64 vy] 25) = XB5 at *
      have HGS := Lib.hid (show GSt 25 (fun i v _ => v = [.agg #[.int .i64 s, .int .i64 k, .int .i64 b, .int .i64 t, .int .i64 u], .agg #[.int .i64 s, .int .i64 k, .int .i64 b, .int .i64 t, .int .i64 u], .agg #[.int .i64 x, .int .i64 y], .tuple #[.agg #[.int .i64 vx, .int .i64 vy], .int .i64 ve], .tuple #[.agg #[.int .i64 vx, .int .i64 vy], .int .i64 ve], .agg #[.int .i64 vx, .int .i64 vy], .int .i64 ve].getD i undef) from ⟨fun i v X Y h _ => h, fun i v X Y q cs ds _ _ h => h⟩)
      refine wp_region_inv [none, none, none, none, none, none, none, none, none, none, none, none, none, none, none, none, none, some 7, some 9, none, none, none, none, none, none, none, none, none, none, none, none, none, none, none, none, none, none, none, none, none, none, none, none, none, none, none, none, none, none, none, none, none, none, none, none, none, none, none, none, none, none, none, none, some 4, some 0, some 1, some 2, some 3, some 5, some 6, none, none, none, none, none, none, none, none, none, none, none, none, none, none, none, none, none, none, none, none, none, none, none, none, none, none, none, none, none, none, none, none, none, none, none, none, none, none, none, none, none, none, none, none, none, none, none, none, none, none, none, none, none, none, none, none, none, none, none, none, none, none, none, none] (fun _ => undef) (fun L xs W => LayG 7 1 25 #[.int .i64 0, .int .i64 0] (fun i v _ => v = [.agg #[.int .i64 s, .int .i64 k, .int .i64 b, .int .i64 t, .int .i64 u], .agg #[.int .i64 s, .int .i64 k, .int .i64 b, .int .i64 t, .int .i64 u], .agg #[.int .i64 x, .int .i64 y], .tuple #[.agg #[.int .i64 vx, .int .i64 vy], .int .i64 ve], .tuple #[.agg #[.int .i64 vx, .int .i64 vy], .int .i64 ve], .agg #[.int .i64 vx, .int .i64 vy], .int .i64 ve].getD i undef) (fun _ => 5) XB5 L xs W ∧ (L 9 = true → xs 9 = .int .i64 ve)) (by kernel_rfl) (by kernel_rfl) rfl rfl (fun LL hL => ⟨LayG.start fun i hi => hL i (Nat.lt_of_lt_of_le hi (by decide)), fun h => by rw [hL 9 (by decide)] at h; cases h⟩) ?_ ?_
      · simp only [invOps, and_true]
        refine ⟨?_, ?_, ?_, ?_, ?_, ?_, ?_, ?_, ?_, ?_⟩
        · intro LL xs W ⟨hI, hJ⟩ hL hn
          obtain ⟨c0, c1, c2, c3, c4⟩ := (HF.out.kept hI.below).cs
          simp only [flowAct, List.zipWith_cons_cons, List.zipWith_nil_left]
          go_wp2_with (fail)
          exact ⟨rfl, _, rfl, ⟨hI.set HGS.out 0 (by decide) (Below.refl _ _) rfl, fun h => hJ h⟩⟩
        · intro LL xs W ⟨hI, hJ⟩ hL hn
          simp [invNeeds, Region.binds] at hn
          have e0 : xs 0 = .agg #[.int .i64 s, .int .i64 k, .int .i64 b, .int .i64 t, .int .i64 u] := hI.2.1 0 (by decide) (by simp only [hn])
          simp only [flowAct, List.zipWith_cons_cons, List.zipWith_nil_left]
          simp only [e0]
          go_wp2_with (go_at_call 10; (with_reducible refine (HO.out _ _ _ _ _ _).mono ?_); rintro e9 w9 ⟨rfl, hb9⟩)
          exact ⟨rfl, _, rfl, ⟨hI.set HGS.out 1 (by decide) hb9 rfl, fun h => hJ h⟩⟩
        · intro LL xs W ⟨hI, hJ⟩ hL hn
          have v0 := (HV.out.kept hI.below).c0
          have v1 := (HV.out.kept hI.below).c1
          simp only [flowAct, List.zipWith_cons_cons, List.zipWith_nil_left]
          go_wp2_with (fail)
          exact ⟨rfl, _, rfl, ⟨hI.set HGS.out 2 (by decide) (Below.refl _ _) rfl, fun h => hJ h⟩⟩
        · intro LL xs W ⟨hI, hJ⟩ hL hn
          simp [invNeeds, Region.binds] at hn
          have e1 : xs 1 = .agg #[.int .i64 s, .int .i64 k, .int .i64 b, .int .i64 t, .int .i64 u] := hI.2.1 1 (by decide) (by simp only [hn])
          have e2 : xs 2 = .agg #[.int .i64 x, .int .i64 y] := hI.2.1 2 (by decide) (by simp only [hn])
          simp only [flowAct, List.zipWith_cons_cons, List.zipWith_nil_left]
          simp only [e1, e2]
          go_wp2_with (go_at_call 14; (with_reducible refine (H6.out _).mono ?_); rintro e9 w9 ⟨rfl, hb9⟩)
          exact ⟨rfl, _, rfl, ⟨hI.set HGS.out 3 (by decide) hb9 rfl, fun h => hJ h⟩⟩
        · intro LL xs W ⟨hI, hJ⟩ hL hn
          simp [invNeeds, Region.binds] at hn
          have e3 : xs 3 = .tuple #[.agg #[.int .i64 vx, .int .i64 vy], .int .i64 ve] := hI.2.1 3 (by decide) (by simp only [hn])
          simp only [flowAct, List.zipWith_cons_cons, List.zipWith_nil_left]
          simp only [e3]
          go_wp2_with (fail)
          exact ⟨rfl, _, rfl, ⟨hI.set HGS.out 4 (by decide) (Below.refl _ _) rfl, fun h => hJ h⟩⟩
        · intro LL xs W ⟨hI, hJ⟩ hL hn
          simp [invNeeds, Region.binds] at hn
          have e4 : xs 4 = .tuple #[.agg #[.int .i64 vx, .int .i64 vy], .int .i64 ve] := hI.2.1 4 (by decide) (by simp only [hn])
          simp only [flowAct, List.zipWith_cons_cons, List.zipWith_nil_left]
          simp only [e4]
          go_wp2_with (fail)
          exact ⟨rfl, _, rfl, ⟨hI.set HGS.out 5 (by decide) (Below.refl _ _) rfl, fun h => hJ h⟩⟩
        · intro LL xs W ⟨hI, hJ⟩ hL hn
          simp [invNeeds, Region.binds] at hn
          have e4 : xs 4 = .tuple #[.agg #[.int .i64 vx, .int .i64 vy], .int .i64 ve] := hI.2.1 4 (by decide) (by simp only [hn])
          simp only [flowAct, List.zipWith_cons_cons, List.zipWith_nil_left]
          simp only [e4]
          go_wp2_with (fail)
          exact ⟨rfl, _, rfl, ⟨hI.set HGS.out 6 (by decide) (Below.refl _ _) rfl, fun h => hJ h⟩⟩
        · intro LL xs W ⟨hI, hJ⟩ hL hn
          simp only [flowAct, List.zipWith_cons_cons, List.zipWith_nil_left]
          go_wp2_with (fail)
          exact ⟨rfl, _, rfl, ⟨hI.alloc HGS.out 0 (by decide) rfl hL, fun h => hJ h⟩⟩
        · intro LL xs W ⟨hI, hJ⟩ hL hn
          simp [invNeeds, Region.binds] at hn
          obtain ⟨hk, hv⟩ : LL 7 = true ∧ LL 5 = true := by simp only [hn, and_self]
          obtain ⟨g5, cs5, eg, lg, hgc, hz5⟩ := hI.2.2.1 0 (by decide) hk
          rw [if_neg (by rw [show LL (7 + 1 + 0) = false from hL]; decide)] at hz5
          subst hz5
          have e0 : xs 5 = .agg #[.int .i64 vx, .int .i64 vy] := hI.2.1 5 (by decide) hv
          have e1 : xs 7 = .pointer (some ⟨g5, 0, none⟩) := eg
          have hc5 : Pair W g5 25 0 0 := hgc
          have p0 := hc5.c0
          have p1 := hc5.c1
          have q0 := hc5.fz 0
          have q1 := hc5.fz 1
          simp only [flowAct, List.zipWith_cons_cons, List.zipWith_nil_left]
          simp only [e0, e1]
          go_wp2_with (fail)
          exact ⟨rfl, undef, rfl, ⟨hI.store HGS.out 0 (by decide) rfl rfl hk eg rfl (Wrote.two hc5 vx vy) undef, fun h => hJ h⟩⟩
        · intro LL xs W ⟨hI, hJ⟩ hL hn
          simp [invNeeds, Region.binds] at hn
          have e9 : xs 6 = .int .i64 ve := hI.2.1 6 (by decide) (by simp only [hn])
          simp only [flowAct, List.zipWith_cons_cons, List.zipWith_nil_left]
          simp only [e9]
          go_wp2_with (fail)
          exact ⟨rfl, _, rfl, ⟨hI.other 9 (by decide) _, fun _ => rfl⟩⟩
      · intro LL xs W ⟨hI, hJ⟩ hall
        obtain ⟨hW, hV, hP, -, -⟩ := hI
        obtain ⟨gB6, cs7, e7, l7, h7, g7⟩ := hP 0 (by decide) (hall 7 (by decide))
        rw [if_pos (hall (7 + 1 + 0) (by decide))] at g7
        have g7 : Value.agg cs7 = .agg #[.int .i64 vx, .int .i64 vy] := g7
        injection g7 with g7
        subst g7
        clear g7
        replace e7 : xs 7 = _ := e7
        have e8 := hJ (hall 9 (by decide))
        clear hP hall hJ
        simp only [flowAct, List.zipWith_cons_cons, List.zipWith_nil_left]
        simp only [e7, e8]
        clear e7 e8 hV
        have HF := Lib.hid (HF.out.kept hW)
        have HV := Lib.hid (HV.out.kept hW)
        have HT := Lib.hid (HT.out.kept hW)
        have B1 := Lib.hid (B1.out.kept hW)
        have B2 := Lib.hid (B2.out.kept hW)
        have B3 := Lib.hid (B3.out.kept hW)
        have B4 := Lib.hid (B4.out.kept hW)
        have B5 := Lib.hid (B5.out.kept hW)
        have HB := Lib.hid (HB.out.trans (hW.mono HB.out.size))
        have B6 := Lib.hid (show Pair W gB6 25 vx vy from h7)
        clear h7 l7 HGS
        obtain ⟨XB6, hX⟩ : ∃ Z, W = Z := ⟨_, rfl⟩
        rw [hX] at HF HV HT B1 B2 B3 B4 B5 B6 HB ⊢
        clear hX hW
        go_upto_region 7 with (fail)
        obtain ⟨c0, c1, c2, c3, c4⟩ := HF.out.cs
        go_upto_region 8 with (go_at_call 15; (with_reducible refine (H7.out _).mono ?_); rintro e9 w9 ⟨rfl, hb9⟩)
        clear c0 c1 c2 c3 c4
        have HF := Lib.hid (HF.out.kept hb9)
        have HV := Lib.hid (HV.out.kept hb9)
        have HT := Lib.hid (HT.out.kept hb9)
        have B1 := Lib.hid (B1.out.kept hb9)
        have B2 := Lib.hid (B2.out.kept hb9)
        have B3 := Lib.hid (B3.out.kept hb9)
        have B4 := Lib.hid (B4.out.kept hb9)
        have B5 := Lib.hid (B5.out.kept hb9)
        have B6 := Lib.hid (B6.out.kept hb9)
        have HB := Lib.hid (HB.out.trans (hb9.mono HB.out.size))
        clear hb9
        have hx := Fb.new w9 23 ns nk nb nt nu
        have hbx := alloc_below w9 (.cells #[.int .i64 ns, .int .i64 nk, .int .i64 nb, .int .i64 nt, .int .i64 nu] 23)
        have HF := Lib.hid (HF.out.kept hbx)
        have HV := Lib.hid (HV.out.kept hbx)
        have HT := Lib.hid (HT.out.kept hbx)
        have B1 := Lib.hid (B1.out.kept hbx)
        have B2 := Lib.hid (B2.out.kept hbx)
        have B3 := Lib.hid (B3.out.kept hbx)
        have B4 := Lib.hid (B4.out.kept hbx)
        have B5 := Lib.hid (B5.out.kept hbx)
        have B6 := Lib.hid (B6.out.kept hbx)
        have HB := Lib.hid (HB.out.trans (hbx.mono HB.out.size))
        obtain ⟨gB7, hgB7⟩ : ∃ q, w9.heap.size = q := ⟨_, rfl⟩
        rw [hgB7] at hx ⊢
        have B7 := Lib.hid hx
        clear hx hbx hgB7
        generalize w9.alloc (.cells #[.int .i64 ns, .int .i64 nk, .int .i64 nb, .int .i64 nt, .int .i64 nu] 23) = XB7 at *
        obtain ⟨c0, c1, c2, c3, c4⟩ := HF.out.cs
        go_upto_region 9 with (go_at_call 16; (with_reducible refine (H8.out _).mono ?_); rintro e9 w9 ⟨rfl, hb9⟩)
        clear c0 c1 c2 c3 c4
        have HF := Lib.hid (HF.out.kept hb9)
        have HV := Lib.hid (HV.out.kept hb9)
        have HT := Lib.hid (HT.out.kept hb9)
        have B1 := Lib.hid (B1.out.kept hb9)
        have B2 := Lib.hid (B2.out.kept hb9)
        have B3 := Lib.hid (B3.out.kept hb9)
        have B4 := Lib.hid (B4.out.kept hb9)
        have B5 := Lib.hid (B5.out.kept hb9)
        have B6 := Lib.hid (B6.out.kept hb9)
        have B7 := Lib.hid (B7.out.kept hb9)
        have HB := Lib.hid (HB.out.trans (hb9.mono HB.out.size))
        clear hb9
        have hx := Fb.new w9 29 ns nk nb nt nu
        have hbx := alloc_below w9 (.cells #[.int .i64 ns, .int .i64 nk, .int .i64 nb, .int .i64 nt, .int .i64 nu] 29)
        have HF := Lib.hid (HF.out.kept hbx)
        have HV := Lib.hid (HV.out.kept hbx)
        have HT := Lib.hid (HT.out.kept hbx)
        have B1 := Lib.hid (B1.out.kept hbx)
        have B2 := Lib.hid (B2.out.kept hbx)
        have B3 := Lib.hid (B3.out.kept hbx)
        have B4 := Lib.hid (B4.out.kept hbx)
        have B5 := Lib.hid (B5.out.kept hbx)
        have B6 := Lib.hid (B6.out.kept hbx)
        have B7 := Lib.hid (B7.out.kept hbx)
        have HB := Lib.hid (HB.out.trans (hbx.mono HB.out.size))
        obtain ⟨gB8, hgB8⟩ : ∃ q, w9.heap.size = q := ⟨_, rfl⟩
        rw [hgB8] at hx ⊢
        have B8 := Lib.hid hx
        clear hx hbx hgB8
        generalize w9.alloc (.cells #[.int .i64 ns, .int .i64 nk, .int .i64 nb, .int .i64 nt, .int .i64 nu] 29) = XB8 at *
        refine wp_region_flow_tail 52 [none, none, none, none, none, none, none, none, none, none, none, none, none, none, none, none, none, none, none, none, none, none, none, none, none, none, none, none, none, none, none, none, none, none, none, none, none, none, none, none, none, none, none, none, none, none, none, none, none, none, none, none, none, none, none, none, none, none, none, none, none, none, none, none, none, none, none, none, none, none, none, none, none, none, none, none, none, none, none, none, none, none, some 0, some 1, some 2, some 3, some 4, some 5, some 6, some 7, some 8, some 9, some 10, some 11, some 12, some 13, some 14, some 15, some 16, some 17, some 18, some 19, some 20, some 21, some 22, some 23, some 24, some 25, some 26, some 27, some 28, some 29, some 30, some 31, some 32, some 33, some 34, some 35, some 36, some 37, some 38, some 39, some 40, some 41, some 42, some 43, some 44, some 45, some 46, some 47, some 48, some 49, some 50, some 51] (fun i => [undef, undef, undef, undef, undef, undef, undef, undef, undef, undef, undef, undef, undef, undef, undef, undef, undef, undef, undef, undef, undef, undef, undef, undef, undef, undef, undef, undef, undef, undef, undef, undef, undef, undef, undef, undef, undef, undef, undef, undef, undef, undef, undef, undef, undef, undef, undef, undef, undef, undef, undef, undef].getD i undef) [(fun v _ => v = .agg #[.int .i64 s, .int .i64 k, .int .i64 b, .int .i64 t, .int .i64 u]), (fun v _ => v = .bool R), (fun v _ => v = .agg #[.int .i64 s, .int .i64 k, .int .i64 b, .int .i64 t, .int .i64 u]), (fun v _ => v = .agg #[.int .i64 s, .int .i64 k, .int .i64 b, .int .i64 t, .int .i64 u]), (fun v _ => v = .bool R), (fun v _ => v = .bool true), (fun v _ => v = .bool true), (fun v _ => v = .agg #[.int .i64 ls, .int .i64 lk, .int .i64 lb, .int .i64 lt, .int .i64 lu]), (fun v _ => v = .agg #[.int .i64 ls, .int .i64 lk, .int .i64 lb, .int .i64 lt, .int .i64 lu]), (fun v _ => v = .agg #[.int .i64 ls, .int .i64 lk, .int .i64 lb, .int .i64 lt, .int .i64 lu]), (fun v _ => v = .bool true), (fun v _ => v = .bool true), (fun v _ => v = .bool true), (fun v _ => v = .int .i64 le), (fun v _ => v = .int .i64 le), (fun v _ => v = .bool true), (fun v _ => v = .bool true), (fun v _ => v = .bool true), (fun v _ => v = .agg #[.int .i64 ss, .int .i64 sk, .int .i64 sb, .int .i64 st, .int .i64 su]), (fun v _ => v = .agg #[.int .i64 ss, .int .i64 sk, .int .i64 sb, .int .i64 st, .int .i64 su]), (fun v _ => v = .agg #[.int .i64 ss, .int .i64 sk, .int .i64 sb, .int .i64 st, .int .i64 su]), (fun v _ => v = .bool true), (fun v _ => v = .bool true), (fun v _ => v = .bool true), (fun v _ => v = .int .i64 se), (fun v _ => v = .int .i64 se), (fun v _ => v = .bool true), (fun v _ => v = .bool true), (fun v _ => v = .bool true), (fun v _ => v = .agg #[.int .i64 vx, .int .i64 vy]), (fun v _ => v = .agg #[.int .i64 vx, .int .i64 vy]), (fun v _ => v = .bool true), (fun v _ => v = .bool true), (fun v _ => v = .bool true), (fun v _ => v = .int .i64 ve), (fun v _ => v = .int .i64 ve), (fun v _ => v = .bool true), (fun v _ => v = .bool true), (fun v _ => v = .bool true), (fun v _ => v = .agg #[.int .i64 ns, .int .i64 nk, .int .i64 nb, .int .i64 nt, .int .i64 nu]), (fun v _ => v = .agg #[.int .i64 ns, .int .i64 nk, .int .i64 nb, .int .i64 nt, .int .i64 nu]), (fun v _ => v = .agg #[.int .i64 ns, .int .i64 nk, .int .i64 nb, .int .i64 nt, .int .i64 nu]), (fun v _ => v = .bool true), (fun v _ => v = .bool true), (fun v _ => v = .bool true), (fun v _ => v = .int .i64 ne), (fun v _ => v = .int .i64 ne), (fun v _ => v = .bool true), (fun v _ => v = .bool true), (fun v _ => v = .bool true), (fun v _ => v = .bool true), (fun v _ => v = .bool true)] (fun _ => False) (by kernel_rfl) (by kernel_rfl) (by kernel_rfl) rfl rfl rfl ?_ ?_ ?_
        · intro g hg v X Y hX hY hv
          simp only [List.mem_cons, List.not_mem_nil, or_false] at hg
          rcases hg with rfl | rfl | rfl | rfl | rfl | rfl | rfl | rfl | rfl | rfl | rfl | rfl | rfl | rfl | rfl | rfl | rfl | rfl | rfl | rfl | rfl | rfl | rfl | rfl | rfl | rfl | rfl | rfl | rfl | rfl | rfl | rfl | rfl | rfl | rfl | rfl | rfl | rfl | rfl | rfl | rfl | rfl | rfl | rfl | rfl | rfl | rfl | rfl | rfl | rfl | rfl | rfl
          all_goals first
            | exact hv
            | exact hv.kept hY
        · simp only [flowOpsF, List.take_succ_cons, List.take_zero, and_true]
          refine ⟨?_, ?_, ?_, ?_, ?_, ?_, ?_, ?_, ?_, ?_, ?_, ?_, ?_, ?_, ?_, ?_, ?_, ?_, ?_, ?_, ?_, ?_, ?_, ?_, ?_, ?_, ?_, ?_, ?_, ?_, ?_, ?_, ?_, ?_, ?_, ?_, ?_, ?_, ?_, ?_, ?_, ?_, ?_, ?_, ?_, ?_, ?_, ?_, ?_, ?_, ?_, ?_⟩
          · intro xs W hW hn
            obtain ⟨c0, c1, c2, c3, c4⟩ := (HF.out.kept hW).cs
            simp only [flowAct, List.zipWith_cons_cons, List.zipWith_nil_left]
            go_wp2_with (fail)
            exact ⟨rfl, _, rfl, Below.refl _ _, rfl, fun h => h.elim⟩
          · intro xs W hW hn
            try simp [flowNeeds, Region.binds] at hn
            simp only [flowAct, List.zipWith_cons_cons, List.zipWith_nil_left]
            try simp only [hn]
            go_wp2_with (go_at_call 17; (with_reducible refine (H9.out _).mono ?_); rintro e9 w9 ⟨rfl, hb9⟩)
            exact ⟨rfl, _, rfl, hb9, rfl, fun h => h.elim⟩
          · intro xs W hW hn
            obtain ⟨c0, c1, c2, c3, c4⟩ := (HF.out.kept hW).cs
            simp only [flowAct, List.zipWith_cons_cons, List.zipWith_nil_left]
            go_wp2_with (fail)
            exact ⟨rfl, _, rfl, Below.refl _ _, rfl, fun h => h.elim⟩
          · intro xs W hW hn
            try simp [flowNeeds, Region.binds] at hn
            simp only [flowAct, List.zipWith_cons_cons, List.zipWith_nil_left]
            try simp only [hn]
            go_wp2_with (go_at_call 10; (with_reducible refine (HO.out _ _ _ _ _ _).mono ?_); rintro e9 w9 ⟨rfl, hb9⟩)
            exact ⟨rfl, _, rfl, hb9, rfl, fun h => h.elim⟩
          · intro xs W hW hn
            try simp [flowNeeds, Region.binds] at hn
            simp only [flowAct, List.zipWith_cons_cons, List.zipWith_nil_left]
            try simp only [hn]
            go_wp2_with (go_at_call 18; (with_reducible refine (HA.out _).mono ?_); rintro e9 w9 ⟨rfl, hb9⟩)
            exact ⟨rfl, _, rfl, hb9, rfl, fun h => h.elim⟩
          · intro xs W hW hn
            simp [flowNeeds, Region.binds] at hn
            simp only [flowAct, List.zipWith_cons_cons, List.zipWith_nil_left]
            try simp only [hn]
            go_wp2_with (fail)
            exact ⟨rfl, _, rfl, Below.refl _ _, rfl, fun h => h.elim⟩
          · intro xs W hW hn
            simp [flowNeeds, Region.binds] at hn
            simp only [flowAct, List.zipWith_cons_cons, List.zipWith_nil_left]
            try simp only [hn]
            go_wp2_with (fail)
            exact ⟨rfl, _, rfl, Below.refl _ _, rfl, fun h => h.elim⟩
          · intro xs W hW hn
            obtain ⟨c0, c1, c2, c3, c4⟩ := (B1.out.kept hW).cs
            simp [flowNeeds, Region.binds] at hn
            simp only [flowAct, List.zipWith_cons_cons, List.zipWith_nil_left]
            try simp only [hn]
            go_wp2_with (fail)
            exact ⟨rfl, _, rfl, Below.refl _ _, rfl, fun h => h.elim⟩
          · intro xs W hW hn
            try simp [flowNeeds, Region.binds] at hn
            simp only [flowAct, List.zipWith_cons_cons, List.zipWith_nil_left]
            try simp only [hn]
            go_wp2_with (go_at_call 10; (with_reducible refine (HO.out _ _ _ _ _ _).mono ?_); rintro e9 w9 ⟨rfl, hb9⟩)
            exact ⟨rfl, _, rfl, hb9, rfl, fun h => h.elim⟩
          · intro xs W hW hn
            obtain ⟨c0, c1, c2, c3, c4⟩ := (B2.out.kept hW).cs
            simp [flowNeeds, Region.binds] at hn
            simp only [flowAct, List.zipWith_cons_cons, List.zipWith_nil_left]
            try simp only [hn]
            go_wp2_with (fail)
            exact ⟨rfl, _, rfl, Below.refl _ _, rfl, fun h => h.elim⟩
          · intro xs W hW hn
            have hq := rfq_eqb ls lk lb lt lu ls lk lb lt lu true (by simp)
            have hqg := rfq_eqg .eql
            simp [flowNeeds, Region.binds] at hn
            simp only [flowAct, List.zipWith_cons_cons, List.zipWith_nil_left]
            try simp only [hn]
            go_wp2_with (fail)
            exact ⟨rfl, _, rfl, Below.refl _ _, rfl, fun h => h.elim⟩
          · intro xs W hW hn
            simp [flowNeeds, Region.binds] at hn
            simp only [flowAct, List.zipWith_cons_cons, List.zipWith_nil_left]
            try simp only [hn]
            go_wp2_with (fail)
            exact ⟨rfl, _, rfl, Below.refl _ _, rfl, fun h => h.elim⟩
          · intro xs W hW hn
            simp [flowNeeds, Region.binds] at hn
            simp only [flowAct, List.zipWith_cons_cons, List.zipWith_nil_left]
            try simp only [hn]
            go_wp2_with (fail)
            exact ⟨rfl, _, rfl, Below.refl _ _, rfl, fun h => h.elim⟩
          · intro xs W hW hn
            simp [flowNeeds, Region.binds] at hn
            simp only [flowAct, List.zipWith_cons_cons, List.zipWith_nil_left]
            try simp only [hn]
            go_wp2_with (fail)
            exact ⟨rfl, _, rfl, Below.refl _ _, rfl, fun h => h.elim⟩
          · intro xs W hW hn
            simp [flowNeeds, Region.binds] at hn
            simp only [flowAct, List.zipWith_cons_cons, List.zipWith_nil_left]
            try simp only [hn]
            go_wp2_with (fail)
            exact ⟨rfl, _, rfl, Below.refl _ _, rfl, fun h => h.elim⟩
          · intro xs W hW hn
            simp [flowNeeds, Region.binds] at hn
            simp only [flowAct, List.zipWith_cons_cons, List.zipWith_nil_left]
            try simp only [hn]
            go_wp2_with (fail)
            exact ⟨rfl, _, rfl, Below.refl _ _, rfl, fun h => h.elim⟩
          · intro xs W hW hn
            simp [flowNeeds, Region.binds] at hn
            simp only [flowAct, List.zipWith_cons_cons, List.zipWith_nil_left]
            try simp only [hn]
            go_wp2_with (fail)
            exact ⟨rfl, _, rfl, Below.refl _ _, rfl, fun h => h.elim⟩
          · intro xs W hW hn
            simp [flowNeeds, Region.binds] at hn
            simp only [flowAct, List.zipWith_cons_cons, List.zipWith_nil_left]
            try simp only [hn]
            go_wp2_with (fail)
            exact ⟨rfl, _, rfl, Below.refl _ _, rfl, fun h => h.elim⟩
          · intro xs W hW hn
            obtain ⟨c0, c1, c2, c3, c4⟩ := (B3.out.kept hW).cs
            simp [flowNeeds, Region.binds] at hn
            simp only [flowAct, List.zipWith_cons_cons, List.zipWith_nil_left]
            try simp only [hn]
            go_wp2_with (fail)
            exact ⟨rfl, _, rfl, Below.refl _ _, rfl, fun h => h.elim⟩
          · intro xs W hW hn
            try simp [flowNeeds, Region.binds] at hn
            simp only [flowAct, List.zipWith_cons_cons, List.zipWith_nil_left]
            try simp only [hn]
            go_wp2_with (go_at_call 10; (with_reducible refine (HO.out _ _ _ _ _ _).mono ?_); rintro e9 w9 ⟨rfl, hb9⟩)
            exact ⟨rfl, _, rfl, hb9, rfl, fun h => h.elim⟩
          · intro xs W hW hn
            obtain ⟨c0, c1, c2, c3, c4⟩ := (B4.out.kept hW).cs
            simp [flowNeeds, Region.binds] at hn
            simp only [flowAct, List.zipWith_cons_cons, List.zipWith_nil_left]
            try simp only [hn]
            go_wp2_with (fail)
            exact ⟨rfl, _, rfl, Below.refl _ _, rfl, fun h => h.elim⟩
          · intro xs W hW hn
            have hq := rfq_eqb ss sk sb st su ss sk sb st su true (by simp)
            have hqg := rfq_eqg .eql
            simp [flowNeeds, Region.binds] at hn
            simp only [flowAct, List.zipWith_cons_cons, List.zipWith_nil_left]
            try simp only [hn]
            go_wp2_with (fail)
            exact ⟨rfl, _, rfl, Below.refl _ _, rfl, fun h => h.elim⟩
          · intro xs W hW hn
            simp [flowNeeds, Region.binds] at hn
            simp only [flowAct, List.zipWith_cons_cons, List.zipWith_nil_left]
            try simp only [hn]
            go_wp2_with (fail)
            exact ⟨rfl, _, rfl, Below.refl _ _, rfl, fun h => h.elim⟩
          · intro xs W hW hn
            simp [flowNeeds, Region.binds] at hn
            simp only [flowAct, List.zipWith_cons_cons, List.zipWith_nil_left]
            try simp only [hn]
            go_wp2_with (fail)
            exact ⟨rfl, _, rfl, Below.refl _ _, rfl, fun h => h.elim⟩
          · intro xs W hW hn
            simp [flowNeeds, Region.binds] at hn
            simp only [flowAct, List.zipWith_cons_cons, List.zipWith_nil_left]
            try simp only [hn]
            go_wp2_with (fail)
            exact ⟨rfl, _, rfl, Below.refl _ _, rfl, fun h => h.elim⟩
          · intro xs W hW hn
            simp [flowNeeds, Region.binds] at hn
            simp only [flowAct, List.zipWith_cons_cons, List.zipWith_nil_left]
            try simp only [hn]
            go_wp2_with (fail)
            exact ⟨rfl, _, rfl, Below.refl _ _, rfl, fun h => h.elim⟩
          · intro xs W hW hn
            simp [flowNeeds, Region.binds] at hn
            simp only [flowAct, List.zipWith_cons_cons, List.zipWith_nil_left]
            try simp only [hn]
            go_wp2_with (fail)
            exact ⟨rfl, _, rfl, Below.refl _ _, rfl, fun h => h.elim⟩
          · intro xs W hW hn
            simp [flowNeeds, Region.binds] at hn
            simp only [flowAct, List.zipWith_cons_cons, List.zipWith_nil_left]
            try simp only [hn]
            go_wp2_with (fail)
            exact ⟨rfl, _, rfl, Below.refl _ _, rfl, fun h => h.elim⟩
          · intro xs W hW hn
            simp [flowNeeds, Region.binds] at hn
            simp only [flowAct, List.zipWith_cons_cons, List.zipWith_nil_left]
            try simp only [hn]
            go_wp2_with (fail)
            exact ⟨rfl, _, rfl, Below.refl _ _, rfl, fun h => h.elim⟩
          · intro xs W hW hn
            have c0 := (B5.out.kept hW).c0
            have c1 := (B5.out.kept hW).c1
            simp [flowNeeds, Region.binds] at hn
            simp only [flowAct, List.zipWith_cons_cons, List.zipWith_nil_left]
            try simp only [hn]
            go_wp2_with (fail)
            exact ⟨rfl, _, rfl, Below.refl _ _, rfl, fun h => h.elim⟩
          · intro xs W hW hn
            have c0 := (B6.out.kept hW).c0
            have c1 := (B6.out.kept hW).c1
            simp [flowNeeds, Region.binds] at hn
            simp only [flowAct, List.zipWith_cons_cons, List.zipWith_nil_left]
            try simp only [hn]
            go_wp2_with (fail)
            exact ⟨rfl, _, rfl, Below.refl _ _, rfl, fun h => h.elim⟩
          · intro xs W hW hn
            have hq := vec_eql vx vy
            have hqg := vec_eqg .eql
            simp [flowNeeds, Region.binds] at hn
            simp only [flowAct, List.zipWith_cons_cons, List.zipWith_nil_left]
            try simp only [hn]
            go_wp2_with (fail)
            exact ⟨rfl, _, rfl, Below.refl _ _, rfl, fun h => h.elim⟩
          · intro xs W hW hn
            simp [flowNeeds, Region.binds] at hn
            simp only [flowAct, List.zipWith_cons_cons, List.zipWith_nil_left]
            try simp only [hn]
            go_wp2_with (fail)
            exact ⟨rfl, _, rfl, Below.refl _ _, rfl, fun h => h.elim⟩
          · intro xs W hW hn
            simp [flowNeeds, Region.binds] at hn
            simp only [flowAct, List.zipWith_cons_cons, List.zipWith_nil_left]
            try simp only [hn]
            go_wp2_with (fail)
            exact ⟨rfl, _, rfl, Below.refl _ _, rfl, fun h => h.elim⟩
          · intro xs W hW hn
            simp [flowNeeds, Region.binds] at hn
            simp only [flowAct, List.zipWith_cons_cons, List.zipWith_nil_left]
            try simp only [hn]
            go_wp2_with (fail)
            exact ⟨rfl, _, rfl, Below.refl _ _, rfl, fun h => h.elim⟩
          · intro xs W hW hn
            simp [flowNeeds, Region.binds] at hn
            simp only [flowAct, List.zipWith_cons_cons, List.zipWith_nil_left]
            try simp only [hn]
            go_wp2_with (fail)
            exact ⟨rfl, _, rfl, Below.refl _ _, rfl, fun h => h.elim⟩
          · intro xs W hW hn
            simp [flowNeeds, Region.binds] at hn
            simp only [flowAct, List.zipWith_cons_cons, List.zipWith_nil_left]
            try simp only [hn]
            go_wp2_with (fail)
            exact ⟨rfl, _, rfl, Below.refl _ _, rfl, fun h => h.elim⟩
          · intro xs W hW hn
            simp [flowNeeds, Region.binds] at hn
            simp only [flowAct, List.zipWith_cons_cons, List.zipWith_nil_left]
            try simp only [hn]
            go_wp2_with (fail)
            exact ⟨rfl, _, rfl, Below.refl _ _, rfl, fun h => h.elim⟩
          · intro xs W hW hn
            simp [flowNeeds, Region.binds] at hn
            simp only [flowAct, List.zipWith_cons_cons, List.zipWith_nil_left]
            try simp only [hn]
            go_wp2_with (fail)
            exact ⟨rfl, _, rfl, Below.refl _ _, rfl, fun h => h.elim⟩
          · intro xs W hW hn
            obtain ⟨c0, c1, c2, c3, c4⟩ := (B7.out.kept hW).cs
            simp [flowNeeds, Region.binds] at hn
            simp only [flowAct, List.zipWith_cons_cons, List.zipWith_nil_left]
            try simp only [hn]
            go_wp2_with (fail)
            exact ⟨rfl, _, rfl, Below.refl _ _, rfl, fun h => h.elim⟩
          · intro xs W hW hn
            try simp [flowNeeds, Region.binds] at hn
            simp only [flowAct, List.zipWith_cons_cons, List.zipWith_nil_left]
            try simp only [hn]
            go_wp2_with (go_at_call 10; (with_reducible refine (HO.out _ _ _ _ _ _).mono ?_); rintro e9 w9 ⟨rfl, hb9⟩)
            exact ⟨rfl, _, rfl, hb9, rfl, fun h => h.elim⟩
          · intro xs W hW hn
            obtain ⟨c0, c1, c2, c3, c4⟩ := (B8.out.kept hW).cs
            simp [flowNeeds, Region.binds] at hn
            simp only [flowAct, List.zipWith_cons_cons, List.zipWith_nil_left]
            try simp only [hn]
            go_wp2_with (fail)
            exact ⟨rfl, _, rfl, Below.refl _ _, rfl, fun h => h.elim⟩
          · intro xs W hW hn
            have hq := rfq_eqb ns nk nb nt nu ns nk nb nt nu true (by simp)
            have hqg := rfq_eqg .eql
            simp [flowNeeds, Region.binds] at hn
            simp only [flowAct, List.zipWith_cons_cons, List.zipWith_nil_left]
            try simp only [hn]
            go_wp2_with (fail)
            exact ⟨rfl, _, rfl, Below.refl _ _, rfl, fun h => h.elim⟩
          · intro xs W hW hn
            simp [flowNeeds, Region.binds] at hn
            simp only [flowAct, List.zipWith_cons_cons, List.zipWith_nil_left]
            try simp only [hn]
            go_wp2_with (fail)
            exact ⟨rfl, _, rfl, Below.refl _ _, rfl, fun h => h.elim⟩
          · intro xs W hW hn
            simp [flowNeeds, Region.binds] at hn
            simp only [flowAct, List.zipWith_cons_cons, List.zipWith_nil_left]
            try simp only [hn]
            go_wp2_with (fail)
            exact ⟨rfl, _, rfl, Below.refl _ _, rfl, fun h => h.elim⟩
          · intro xs W hW hn
            simp [flowNeeds, Region.binds] at hn
            simp only [flowAct, List.zipWith_cons_cons, List.zipWith_nil_left]
            try simp only [hn]
            go_wp2_with (fail)
            exact ⟨rfl, _, rfl, Below.refl _ _, rfl, fun h => h.elim⟩
          · intro xs W hW hn
            simp [flowNeeds, Region.binds] at hn
            simp only [flowAct, List.zipWith_cons_cons, List.zipWith_nil_left]
            try simp only [hn]
            go_wp2_with (fail)
            exact ⟨rfl, _, rfl, Below.refl _ _, rfl, fun h => h.elim⟩
          · intro xs W hW hn
            simp [flowNeeds, Region.binds] at hn
            simp only [flowAct, List.zipWith_cons_cons, List.zipWith_nil_left]
            try simp only [hn]
            go_wp2_with (fail)
            exact ⟨rfl, _, rfl, Below.refl _ _, rfl, fun h => h.elim⟩
          · intro xs W hW hn
            simp [flowNeeds, Region.binds] at hn
            simp only [flowAct, List.zipWith_cons_cons, List.zipWith_nil_left]
            try simp only [hn]
            go_wp2_with (fail)
            exact ⟨rfl, _, rfl, Below.refl _ _, rfl, fun h => h.elim⟩
          · intro xs W hW hn
            simp [flowNeeds, Region.binds] at hn
            simp only [flowAct, List.zipWith_cons_cons, List.zipWith_nil_left]
            try simp only [hn]
            go_wp2_with (fail)
            exact ⟨rfl, _, rfl, Below.refl _ _, rfl, fun h => h.elim⟩
          · intro xs W hW hn
            try simp [flowNeeds, Region.binds] at hn
            simp only [flowAct, List.zipWith_cons_cons, List.zipWith_nil_left]
            try simp only [hn]
            go_wp2_with (go_at_call 19; (with_reducible refine (HLV.out _).mono ?_); rintro e9 w9 ⟨rfl, hb9⟩)
            exact ⟨rfl, _, rfl, hb9, rfl, fun h => h.elim⟩
          · intro xs W hW hn
            simp [flowNeeds, Region.binds] at hn
            simp only [flowAct, List.zipWith_cons_cons, List.zipWith_nil_left]
            try simp only [hn]
            go_wp2_with (fail)
            exact ⟨rfl, _, rfl, Below.refl _ _, rfl, fun h => h.elim⟩
        · intro xs W hW hall hfr
          clear hfr
          simp only [flowAll, and_true, Nat.zero_add, Nat.reduceAdd] at hall
          obtain ⟨-, -, -, -, -, -, -, -, -, -, -, -, -, -, -, -, -, -, -, -, -, -, -, -, -, -, -, -, -, -, -, -, -, -, -, -, -, -, -, -, -, -, -, -, -, -, -, -, -, -, -, e51⟩ := hall
          simp only [flowAct, List.zipWith_cons_cons, List.zipWith_nil_left, List.drop_succ_cons, List.drop_zero]
          simp only [e51]
          go_wp2
          go_ret
          exact ⟨rfl, HB.out.trans (hW.mono HB.out.size)⟩
end Go.Proofs.Ytdjhiaogpgaboaa
end

section
namespace Go.Proofs.Ytdjhiaogpgaboaa
open Go.RowKit Go Go.Sort
set_option linter.unusedVariables false
set_option maxRecDepth 20000

/-- Something that is told, in a box. -/
def Tb3 (W : World) (g : Nat) (a o c : Int) : Prop := W.heap[g]? = some (.cells #[.int .i64 a, .int .i64 o, .int .i64 c] 76 (0, 0))
theorem Tb3.new (w : World) (a o c : Int) : Tb3 (w.alloc (.cells #[.int .i64 a, .int .i64 o, .int .i64 c] 76)) w.heap.size a o c := heap_alloc_new w _
theorem Tb3.cs {W : World} {g : Nat} {a o c : Int} (h : Tb3 W g a o c) : W.cell? ⟨g, 0, none⟩ = some (.int .i64 a) ∧ W.cell? ⟨g, 1, none⟩ = some (.int .i64 o) ∧ W.cell? ⟨g, 2, none⟩ = some (.int .i64 c) := by
  unfold Tb3 at h
  refine ⟨?_, ?_, ?_⟩ <;> (unfold World.cell?; simp only [h]; rfl)
theorem Tb3.kept {W W' : World} {g : Nat} {a o c : Int} (h : Tb3 W g a o c) (hb : Below W.heap.size W W') : Tb3 W' g a o c := (hb.block g (Array.getElem?_eq_some_iff.1 h).1).trans h
theorem Tb3.other {W : World} {g : Nat} {a o c : Int} (h : Tb3 W g a o c) {p : Addr} (v : Value) (hp : p.block ≠ g) : Tb3 (W.setCell p v) g a o c := (Below.heap_setCell W p v g (fun e => hp e.symm)).trans h
theorem fb_ne {W : World} {g g2 : Nat} {s k b t u x y : Int} (h : Fb W g 23 s k b t u) (h2 : Pair W g2 25 x y) : g ≠ g2 := fun e => by
  subst e
  have h3 : W.heap[g]? = some (.cells #[.int .i64 x, .int .i64 y] 25 (0, 0)) := h2
  rw [h] at h3
  injection h3 with h3
  injection h3 with h3 h4
  exact absurd h4 (by decide)
theorem fb_lt {W : World} {g : Nat} {ty : TypeId} {s k b t u : Int} (h : Fb W g ty s k b t u) : g < W.heap.size := (Array.getElem?_eq_some_iff.1 h).1
theorem pr_lt {W : World} {g : Nat} {ty : TypeId} {x y : Int} (h : Pair W g ty x y) : g < W.heap.size := (Array.getElem?_eq_some_iff.1 h).1
end Go.Proofs.Ytdjhiaogpgaboaa
end

section
namespace Go.Proofs.Ytdjhiaogpgaboaa
open Go.RowKit Go Go.Sort
set_option linter.unusedVariables false
set_option maxRecDepth 20000

set_option maxRecDepth 100000 in
set_option maxHeartbeats 12800000 in
theorem fgrows1 {w : World} {site q0 : Int} {a : Option Addr} {m cap : Nat} {l : List Tl} (hl : Tls w a m cap l) (hq0 : wrap64 ((IntKind.u64.wrap site).tmod 2) = q0) (hK : q0 = 0) : Calls Try.prog 7 #[.int .i64 site, .slice a m cap] w (Tells (.bool true) w) := by
  subst hK
  have hle := hl.le
  have hmax := hl.max
  have HL := Lib.hid hl
  have HLV := Lib.hid frlives_c
  have HTH := Lib.hid (fun (f : Ft) (h : f.s = 1) (x y : Int) => show f.theirs x y = y from if_pos h)
  have HMI := Lib.hid (fun (f : Ft) (h : f.s = 1) (x y : Int) => show f.mine x y = x from if_pos h)
  have HN := Lib.hid (fun W => fnew_c 1 W)
  rw [show newF 1 = (⟨1, 0, 0, 0, 0⟩, 0) by decide] at HN
  simp only [ftR] at HN
  clear hl
  have hdd : ∃ d, decide ((300 : Int) < (m : Int)) = d := ⟨_, rfl⟩
  obtain ⟨d, hd⟩ := hdd
  have HM1 := Lib.hid (show d = false → m ≤ 300 from fun h => by rw [h] at hd; have : ¬ ((300 : Int) < (m : Int)) := of_decide_eq_false hd; omega)
  go_enter Try.func7, Try.ntmps7
  go_upto_region 3 with (go_at_call 15; (with_reducible refine (HN.out _).mono ?_); rintro e1 w1 ⟨rfl, hb1⟩)
  clear hq0
  have HB := Lib.hid hb1
  clear hb1
  have hsz := HB.out.size
  have hx := Fb.new w1 23 1 0 0 0 0
  have hbx := alloc_below w1 (.cells #[.int .i64 1, .int .i64 0, .int .i64 0, .int .i64 0, .int .i64 0] 23)
  have HB := Lib.hid (HB.out.trans (hbx.mono HB.out.size))
  obtain ⟨gf, hg⟩ : ∃ q, w1.heap.size = q := ⟨_, rfl⟩
  rw [hg] at hx hsz  ⊢
  have Hgf := Lib.hid hx
  have HGF0 := Lib.hid hsz
  clear hx hbx hg hsz 
  generalize w1.alloc (.cells #[.int .i64 1, .int .i64 0, .int .i64 0, .int .i64 0, .int .i64 0] 23) = W1 at *
  cases d
  · have HMM := Lib.hid (HM1.out rfl)
    go_upto_region 6 with (fail)
    have hsz := HB.out.size
    have hx := Pair.new W1 25 1000 1000
    have hbx := alloc_below W1 (.cells #[.int .i64 1000, .int .i64 1000] 25)
    have Hgf := Lib.hid (Hgf.out.kept hbx)
    have HB := Lib.hid (HB.out.trans (hbx.mono HB.out.size))
    obtain ⟨gk, hg⟩ : ∃ q, W1.heap.size = q := ⟨_, rfl⟩
    rw [hg] at hx hsz  ⊢
    have Hgk := Lib.hid hx
    have HGK := Lib.hid (show w.heap.size ≤ gk ∧ w.heap.size ≤ gf from ⟨hsz, HGF0.out⟩)
    clear hx hbx hg hsz 
    generalize W1.alloc (.cells #[.int .i64 1000, .int .i64 1000] 25) = W2 at *
    have v0 := Hgk.out.c0
    have v1 := Hgk.out.c1
    have y0 := Hgk.out.fz 0
    have y1 := Hgk.out.fz 1
    have hne := fb_ne Hgf.out Hgk.out
    have HNE := Lib.hid hne
    go_upto_region 7 with (fail)
    have Hgf := Lib.hid (Hgf.out.other (p := ⟨gk, 1, none⟩) (.int .i64 0) (fun e => hne e.symm))
    have Hgk := Lib.hid (Hgk.out.set1 0)
    have HB := Lib.hid (HB.out.setCell (p := ⟨gk, 1, none⟩) HGK.out.1 (.int .i64 0))
    clear v0 v1 y0 y1 hne
    generalize W2.setCell ⟨gk, 1, none⟩ (.int .i64 0) = W3 at *
    go_upto_region 9 with (fail)
    go_loopw [9, 46] (fun v i wr => ∃ (j : Nat) (k b t u most c : Int), j ≤ m ∧ i = .int .i64 (j : Int) ∧ v = .int .i64 most ∧ Grw l j ⟨1, k, b, t, u⟩ most ∧ 0 ≤ c ∧ c ≤ 1000 ∧ Fb wr gf 23 1 k b t u ∧ Pair wr gk 25 1000 c ∧ Below w.heap.size w wr) (fun _ i _ => m - (intOf i).toNat)
    case atStart => exact ⟨0, 0, 0, 0, 0, 0, 0, by omega, rfl, rfl, ⟨by decide, rfl, fun h => absurd h (by decide)⟩, by omega, by omega, Hgf.out, Hgk.out, HB.out⟩
    case round =>
      clear Hgf Hgk HB HN HM1 hd
      obtain ⟨j, k, b, t, u, most, c, hj, rfl, rfl, hgrw, hc0, hc1, hgf, hgk, hB⟩ := hrel
      have HGR := Lib.hid hgrw
      have Hgf := Lib.hid hgf
      have Hgk := Lib.hid hgk
      have HB := Lib.hid hB
      clear hgrw hgf hgk hB
      by_cases hlt : j < m
      · have hji : (j : Int) < (m : Int) := by omega
        have hjc : (j : Int) < (cap : Int) := by omega
        obtain ⟨bl, off, rfl, hat⟩ := HL.out.at hlt
        obtain ⟨x, hx⟩ : ∃ x, l.getD j Tl.zero = x := ⟨_, rfl⟩
        rw [hx] at hat
        obtain ⟨ta, to, tc⟩ := x
        obtain ⟨c0, c1, c2⟩ := hat wr HB.out
        simp only at c0 c1 c2
        have HX := Lib.hid hx
        clear hat hx
        obtain ⟨d0, d1, d2, d3, d4⟩ := Hgf.out.cs
        go_upto_region 11 with (fail)
        clear c0 c1 c2 d0 d1 d2 d3 d4
        have hsz := HB.out.size
        have hlt0 := fb_lt Hgf.out
        have hlt1 := pr_lt Hgk.out
        have hx := Tb3.new wr ta to tc
        have hbx := alloc_below wr (.cells #[.int .i64 ta, .int .i64 to, .int .i64 tc] 76)
        have Hgf := Lib.hid (Hgf.out.kept hbx)
        have Hgk := Lib.hid (Hgk.out.kept hbx)
        have HB := Lib.hid (HB.out.trans (hbx.mono HB.out.size))
        obtain ⟨gx, hg⟩ : ∃ q, wr.heap.size = q := ⟨_, rfl⟩
        rw [hg] at hx hsz hlt0 hlt1 ⊢
        have Hgx := Lib.hid hx
        have HXN := Lib.hid (show gx ≠ gk ∧ gx ≠ gf from ⟨by omega, by omega⟩)
        clear hx hbx hg hsz hlt0 hlt1
        generalize wr.alloc (.cells #[.int .i64 ta, .int .i64 to, .int .i64 tc] 76) = W4 at *
        obtain ⟨d0, d1, d2, d3, d4⟩ := Hgf.out.cs
        go_upto_region 12 with (fail)
        clear d0 d1 d2 d3 d4
        obtain ⟨q, hq, hqa, hqb⟩ := umodF tc 5 (by omega) (by omega)
        obtain ⟨s5, hs5⟩ : ∃ z, c + q = z := ⟨_, rfl⟩
        obtain ⟨c9, hc9⟩ : ∃ z, Min.min 1000 s5 = z := ⟨_, rfl⟩
        have HC9 := Lib.hid (show 0 ≤ c9 ∧ c9 ≤ 1000 ∧ c ≤ c9 by omega)
        have hw5 : IntKind.i64.wrap (c + q) = s5 := by rw [IntKind.wrap_i64]; omega
        have HQ5 := Lib.hid hq
        have HW5 := Lib.hid hw5
        have HC5 := Lib.hid hc9
        have HSS := Lib.hid hs5
        clear hq hw5 hc9 hs5
        refine wp_region_flow_tail 14 [none, none, none, none, none, none, none, none, none, none, none, none, none, none, none, none, none, none, none, none, none, none, none, none, none, none, none, none, none, none, none, none, none, none, none, none, none, none, none, none, none, none, none, none, none, none, none, none, none, none, none, none, none, some 0, some 1, some 2, some 3, some 4, some 5, some 6, some 7, some 8, some 9, some 10, some 11, some 12, some 13, none, none, none, none, none, none, none, none, none, none, none, none, none, none, none, none, none, none, none, none, none, none, none, none, none, none, none, none, none, none, none, none, none, none, none, none, none, none, none, none, none, none, none, none, none, none, none, none, none, none, none, none, none, none, none, none, none, none, none, none, none, none, none, none, none, none, none, none, none, none, none, none, none, none, none, none, none, none, none, none, none, none, none, none, none, none, none, none, none, none, none, none, none, none, none, none, none, none, none, none, none, none] (fun i => [u53, u54, u55, u56, u57, u58, u59, u60, u61, u62, u63, u64, u65, u66].getD i undef) [(fun v _ => v = .int .i64 1), (fun v _ => v = .int .i64 1), (fun v _ => v = .int .i64 1), (fun v _ => v = .int .i64 1), (fun v _ => v = .pointer (some ⟨gk, 1, none⟩)), (fun v _ => v = .int .i64 c), (fun v _ => v = .pointer (some ⟨gx, 2, none⟩)), (fun v _ => v = .int .i64 tc), (fun v _ => v = .int .u64 (IntKind.u64.wrap tc)), (fun v _ => v = .int .u64 ((IntKind.u64.wrap tc).tmod 5)), (fun v _ => v = .int .i64 q), (fun v _ => v = .int .i64 s5), (fun v _ => v = .int .i64 c9), (fun v _ => v = .pointer (some ⟨gk, 1, none⟩))] (fun _ => False) (by kernel_rfl) (by kernel_rfl) (by kernel_rfl) rfl rfl rfl ?_ ?_ ?_
        · intro g hg v X Y hX hY hv
          simp only [List.mem_cons, List.not_mem_nil, or_false] at hg
          rcases hg with rfl | rfl | rfl | rfl | rfl | rfl | rfl | rfl | rfl | rfl | rfl | rfl | rfl | rfl
          all_goals first
            | exact hv
            | exact hv.kept hY
        · simp only [flowOpsF, List.take_succ_cons, List.take_zero, and_true]
          refine ⟨?_, ?_, ?_, ?_, ?_, ?_, ?_, ?_, ?_, ?_, ?_, ?_, ?_, ?_⟩
          · intro xs W hW hn
            simp only [flowAct, List.zipWith_cons_cons, List.zipWith_nil_left]
            go_wp2_with (fail)
            exact ⟨rfl, _, rfl, Below.refl _ _, rfl, fun h => h.elim⟩
          · intro xs W hW hn
            simp [flowNeeds, Region.binds] at hn
            simp only [flowAct, List.zipWith_cons_cons, List.zipWith_nil_left]
            try simp only [hn]
            go_wp2_with (fail)
            exact ⟨rfl, _, rfl, Below.refl _ _, rfl, fun h => h.elim⟩
          · intro xs W hW hn
            simp only [flowAct, List.zipWith_cons_cons, List.zipWith_nil_left]
            go_wp2_with (fail)
            exact ⟨rfl, _, rfl, Below.refl _ _, rfl, fun h => h.elim⟩
          · intro xs W hW hn
            simp [flowNeeds, Region.binds] at hn
            simp only [flowAct, List.zipWith_cons_cons, List.zipWith_nil_left]
            try simp only [hn]
            go_wp2_with (fail)
            exact ⟨rfl, _, rfl, Below.refl _ _, rfl, fun h => h.elim⟩
          · intro xs W hW hn
            simp [flowNeeds, Region.binds] at hn
            simp only [flowAct, List.zipWith_cons_cons, List.zipWith_nil_left]
            try simp only [hn]
            go_wp2_with (fail)
            exact ⟨rfl, _, rfl, Below.refl _ _, rfl, fun h => h.elim⟩
          · intro xs W hW hn
            have v0 := (Hgk.out.kept hW).c0
            have v1 := (Hgk.out.kept hW).c1
            simp [flowNeeds, Region.binds] at hn
            simp only [flowAct, List.zipWith_cons_cons, List.zipWith_nil_left]
            try simp only [hn]
            go_wp2_with (fail)
            exact ⟨rfl, _, rfl, Below.refl _ _, rfl, fun h => h.elim⟩
          · intro xs W hW hn
            simp only [flowAct, List.zipWith_cons_cons, List.zipWith_nil_left]
            go_wp2_with (fail)
            exact ⟨rfl, _, rfl, Below.refl _ _, rfl, fun h => h.elim⟩
          · intro xs W hW hn
            obtain ⟨x0, x1, x2⟩ := (Hgx.out.kept hW).cs
            simp [flowNeeds, Region.binds] at hn
            simp only [flowAct, List.zipWith_cons_cons, List.zipWith_nil_left]
            try simp only [hn]
            go_wp2_with (fail)
            exact ⟨rfl, _, rfl, Below.refl _ _, rfl, fun h => h.elim⟩
          · intro xs W hW hn
            simp [flowNeeds, Region.binds] at hn
            simp only [flowAct, List.zipWith_cons_cons, List.zipWith_nil_left]
            try simp only [hn]
            go_wp2_with (fail)
            exact ⟨rfl, _, rfl, Below.refl _ _, rfl, fun h => h.elim⟩
          · intro xs W hW hn
            simp [flowNeeds, Region.binds] at hn
            simp only [flowAct, List.zipWith_cons_cons, List.zipWith_nil_left]
            try simp only [hn]
            go_wp2_with (fail)
            exact ⟨rfl, _, rfl, Below.refl _ _, rfl, fun h => h.elim⟩
          · intro xs W hW hn
            simp [flowNeeds, Region.binds] at hn
            have hq := HQ5.out
            simp only [flowAct, List.zipWith_cons_cons, List.zipWith_nil_left]
            try simp only [hn]
            go_wp2_with (fail)
            exact ⟨rfl, _, rfl, Below.refl _ _, by first | exact rfl | (show _ = _; rw [hq]), fun h => h.elim⟩
          · intro xs W hW hn
            simp [flowNeeds, Region.binds] at hn
            have hw5 := HW5.out
            have hs5 := HSS.out
            simp only [flowAct, List.zipWith_cons_cons, List.zipWith_nil_left]
            try simp only [hn]
            go_wp2_with (fail)
            exact ⟨rfl, _, rfl, Below.refl _ _, by first | exact rfl | (show _ = _; rw [hs5]), fun h => h.elim⟩
          · intro xs W hW hn
            simp [flowNeeds, Region.binds] at hn
            have hc9 := HC5.out
            simp only [flowAct, List.zipWith_cons_cons, List.zipWith_nil_left]
            try simp only [hn]
            go_wp2_with (fail)
            exact ⟨rfl, _, rfl, Below.refl _ _, by first | exact rfl | (show _ = _; rw [hc9]), fun h => h.elim⟩
          · intro xs W hW hn
            simp [flowNeeds, Region.binds] at hn
            simp only [flowAct, List.zipWith_cons_cons, List.zipWith_nil_left]
            try simp only [hn]
            go_wp2_with (fail)
            exact ⟨rfl, _, rfl, Below.refl _ _, rfl, fun h => h.elim⟩
        · intro xs W hW hall hfr
          clear hfr
          simp only [flowAll, and_true, Nat.zero_add, Nat.reduceAdd] at hall
          obtain ⟨-, -, -, -, -, -, -, -, -, -, -, -, e12, e13⟩ := hall
          simp only [flowAct, List.zipWith_cons_cons, List.zipWith_nil_left, List.drop_succ_cons, List.drop_zero]
          simp only [e12, e13]
          clear e12 e13
          have Hgf := Lib.hid (Hgf.out.kept hW)
          have Hgk := Lib.hid (Hgk.out.kept hW)
          have Hgx := Lib.hid (Hgx.out.kept hW)
          have HB := Lib.hid (HB.out.trans (hW.mono HB.out.size))
          obtain ⟨W5, hW5⟩ : ∃ Z, W = Z := ⟨_, rfl⟩
          rw [hW5] at Hgf Hgk Hgx HB ⊢
          clear hW5 hW HQ5 HW5 HC5 HSS
          have y := Hgk.out.fz 1
          have v0 := Hgk.out.c0
          have v1 := Hgk.out.c1
          go_upto_region 13 with (fail)
          have Hgf := Lib.hid (Hgf.out.other (p := ⟨gk, 1, none⟩) (.int .i64 c9) (fun e => HNE.out e.symm))
          have Hgx := Lib.hid (Hgx.out.other (p := ⟨gk, 1, none⟩) (.int .i64 c9) (fun e => HXN.out.1 e.symm))
          have Hgk := Lib.hid (Hgk.out.set1 c9)
          have HB := Lib.hid (HB.out.setCell (p := ⟨gk, 1, none⟩) HGK.out.1 (.int .i64 c9))
          clear y v0 v1
          generalize W5.setCell ⟨gk, 1, none⟩ (.int .i64 c9) = W6 at *
          obtain ⟨d0, d1, d2, d3, d4⟩ := Hgf.out.cs
          have v0 := Hgk.out.c0
          have v1 := Hgk.out.c1
          obtain ⟨x0, x1, x2⟩ := Hgx.out.cs
          have hvg : vgood 1000 c9 = true := by have := HC9.out; simp [vgood]; omega
          have HVG := Lib.hid hvg
          clear hvg hqa hqb hc0 hc1
          have hl1 := fun W => flearn_c 1 k b t u 1000 c9 ta to W
          obtain ⟨⟨⟨s9, k9, b9, t9, u9⟩, e9⟩, hle9⟩ : ∃ z, learnS ⟨1, k, b, t, u⟩ 1000 c9 ta to = z := ⟨_, rfl⟩
          rw [hle9] at hl1
          simp only [ftR] at hl1
          have HL1 := Lib.hid hl1
          have HLE9 := Lib.hid hle9
          clear hl1 hle9
          go_upto_region 14 with (go_at_call 8; (with_reducible refine (HL1.out _).mono ?_); rintro e7 w7 ⟨rfl, hb7⟩)
          clear d0 d1 d2 d3 d4 v0 v1 x0 x1 x2
          have Hgf := Lib.hid (Hgf.out.kept hb7)
          have Hgk := Lib.hid (Hgk.out.kept hb7)
          have Hgx := Lib.hid (Hgx.out.kept hb7)
          have HB := Lib.hid (HB.out.trans (hb7.mono HB.out.size))
          clear hb7
          have hsz := HB.out.size
          have hlt0 := fb_lt Hgf.out
          have hlt1 := pr_lt Hgk.out
          have hx := Fb.new w7 23 s9 k9 b9 t9 u9
          have hbx := alloc_below w7 (.cells #[.int .i64 s9, .int .i64 k9, .int .i64 b9, .int .i64 t9, .int .i64 u9] 23)
          have Hgf := Lib.hid (Hgf.out.kept hbx)
          have Hgk := Lib.hid (Hgk.out.kept hbx)
          have Hgx := Lib.hid (Hgx.out.kept hbx)
          have HB := Lib.hid (HB.out.trans (hbx.mono HB.out.size))
          obtain ⟨gg, hg⟩ : ∃ q, w7.heap.size = q := ⟨_, rfl⟩
          rw [hg] at hx hsz hlt0 hlt1 ⊢
          have Hgg := Lib.hid hx
          have HGN := Lib.hid (show gg ≠ gk ∧ gg ≠ gf ∧ w.heap.size ≤ gg from ⟨by omega, by omega, hsz⟩)
          clear hx hbx hg hsz hlt0 hlt1
          generalize w7.alloc (.cells #[.int .i64 s9, .int .i64 k9, .int .i64 b9, .int .i64 t9, .int .i64 u9] 23) = W7 at *
          by_cases hok : 0 ≤ ta ∧ ta ≤ 1000 ∧ seqS to = true
          · obtain ⟨ha0, ha1, ha2⟩ := hok
            have htold := HGR.out.told (g := ⟨s9, k9, b9, t9, u9⟩) (e := e9) (x := 1000) (y := c9) HVG.out (by rw [HX.out]; exact ha0) (by rw [HX.out, HMI.out ⟨1, k, b, t, u⟩ rfl]; exact ha1) (by rw [HX.out]; exact ha2) (by rw [HX.out]; exact HLE9.out)
            rw [HX.out, HTH.out ⟨1, k, b, t, u⟩ rfl] at htold
            obtain ⟨rfl, hgj, hgb, hgc, hgs⟩ := htold
            simp only at hgb hgc hgs hgj
            subst hgs
            obtain ⟨mx, hmx⟩ : ∃ z, Max.max most ta = z := ⟨_, rfl⟩
            rw [hmx] at hgj
            have HGJ := Lib.hid hgj
            have HGB := Lib.hid hgb
            have HGC := Lib.hid hgc
            clear hgj hgb hgc ha0 ha1 ha2
            obtain ⟨x0, x1, x2⟩ := Hgx.out.cs
            go_upto_region 19 with (fail)
            clear x0 x1 x2 hmx
            obtain ⟨g0, g1, g2, g3, g4⟩ := Hgg.out.cs
            have hgd := Ft.good_iff.1 HGJ.out.good
            have hak : k9 = mx := HGJ.out.ack
            have h1 : ¬ b9 < b := by have := HGB.out; omega
            have h2 : ¬ k9 < b9 := by have := hgd.2.2.2.2.2.1; simp only at this; omega
            have h3 : (k9 != mx) = false := by rw [hak]; simp
            clear hgd
            have HAK := Lib.hid hak
            clear hak
            go_upto_region 21 with (fail)
            clear h1 h2 h3
            by_cases hri : b < b9
            · have HCM := Lib.hid (hit_came (HGC.out hri))
              have hj1 : IntKind.i64.wrap ((j : Int) + 1) = ((j + 1 : Nat) : Int) := by rw [IntKind.wrap_i64]; have := HMM.out; omega
              have hj2 : ((j + 1 : Nat) : Int) ≤ (cap : Int) := by omega
              have hj3 : (0 : Int) ≤ ((j + 1 : Nat) : Int) := by omega
              obtain ⟨J, hJ⟩ : ∃ z : Nat, j + 1 = z := ⟨_, rfl⟩
              have hjJ : (j : Int) + 1 = (J : Int) := by omega
              rw [hJ] at hj1 hj2 hj3
              have HJ := Lib.hid hJ
              clear hJ
              go_upto_region 24 with (fail)
              clear hri hj1 hj3 g0 g1 g2 g3 g4
              go_loopw [15, 137] (fun v i wq => ∃ (p : Nat), p ≤ J ∧ i = .int .i64 (p : Int) ∧ v = .bool (hitN l b9 c9 p) ∧ Fb wq gf 23 1 k b t u ∧ Fb wq gg 23 1 k9 b9 t9 u9 ∧ Pair wq gk 25 1000 c9 ∧ Below w.heap.size w wq) (fun _ i _ => J - (intOf i).toNat)
              case atStart => exact ⟨0, by omega, rfl, rfl, Hgf.out, Hgg.out, Hgk.out, HB.out⟩
              case round =>
                clear Hgf Hgg Hgk HB Hgx
                obtain ⟨p, hp, rfl, rfl, hgf, hgg, hgk, hB⟩ := hrel
                have Hgf := Lib.hid hgf
                have Hgg := Lib.hid hgg
                have Hgk := Lib.hid hgk
                have HB := Lib.hid hB
                clear hgf hgg hgk hB
                by_cases hpl : p < J
                · have hpi : (p : Int) < (J : Int) := by omega
                  have hpc : (p : Int) < (cap : Int) := by omega
                  obtain ⟨bl2, off2, eab, hat⟩ := HL.out.at (k := p) (by have := HJ.out; omega)
                  injection eab with eab
                  injection eab with eab1 eab2
                  subst eab1 eab2
                  obtain ⟨x, hx⟩ : ∃ x, l.getD p Tl.zero = x := ⟨_, rfl⟩
                  rw [hx] at hat
                  have hst : hitN l b9 c9 (p + 1) = (hitN l b9 c9 p || ((x.a == b9) && (decide (0 ≤ x.o) && decide (x.o ≤ c9)))) := by rw [← hx]; rfl
                  obtain ⟨xa, xo, xc⟩ := x
                  obtain ⟨c0, c1, c2⟩ := hat wr HB.out
                  simp only at c0 c1 c2 hst
                  have HST := Lib.hid hst
                  clear hat hx hst
                  go_upto_region 26 with (fail)
                  clear c0 c1 c2
                  have hsz := HB.out.size
                  have hx := Tb3.new wr xa xo xc
                  have hbx := alloc_below wr (.cells #[.int .i64 xa, .int .i64 xo, .int .i64 xc] 76)
                  have Hgf := Lib.hid (Hgf.out.kept hbx)
                  have Hgg := Lib.hid (Hgg.out.kept hbx)
                  have Hgk := Lib.hid (Hgk.out.kept hbx)
                  have HB := Lib.hid (HB.out.trans (hbx.mono HB.out.size))
                  obtain ⟨gy, hg⟩ : ∃ q, wr.heap.size = q := ⟨_, rfl⟩
                  rw [hg] at hx hsz  ⊢
                  have Hgy := Lib.hid hx
                  clear hx hbx hg hsz 
                  generalize wr.alloc (.cells #[.int .i64 xa, .int .i64 xo, .int .i64 xc] 76) = W9 at *
                  obtain ⟨y0, y1, y2⟩ := Hgy.out.cs
                  obtain ⟨g0, g1, g2, g3, g4⟩ := Hgg.out.cs
                  have v0 := Hgk.out.c0
                  have v1 := Hgk.out.c1
                  obtain ⟨R, hR⟩ : ∃ z, hitN l b9 c9 p = z := ⟨_, rfl⟩
                  rw [hR] at HST ⊢
                  clear hR
                  cases R with
                  | true =>
                    go_quiet (fail)
                    clear y0 y1 y2 g0 g1 g2 g3 g4 v0 v1
                    (try go_wp2)
                    go_roundw
                    case rel => exact ⟨p + 1, by omega, by go_num, by rw [HST.out]; rfl, Hgf.out.kept (drewN_below (Below.refl _ W9) nq), Hgg.out.kept (drewN_below (Below.refl _ W9) nq), Hgk.out.kept (drewN_below (Below.refl _ W9) nq), drewN_below HB.out nq⟩
                    case measure => simp [intOf]; omega
                  | false =>
                    cases h1 : (xa == b9) with
                    | false =>
                      have HE := Lib.hid h1
                      go_quiet (fail)
                      clear y0 y1 y2 g0 g1 g2 g3 g4 v0 v1 h1
                      (try go_wp2)
                      go_roundw
                      case rel => exact ⟨p + 1, by omega, by go_num, by rw [HST.out, HE.out]; rfl, Hgf.out.kept (drewN_below (Below.refl _ W9) nq), Hgg.out.kept (drewN_below (Below.refl _ W9) nq), Hgk.out.kept (drewN_below (Below.refl _ W9) nq), drewN_below HB.out nq⟩
                      case measure => simp [intOf]; omega
                    | true =>
                      have HE := Lib.hid h1
                      by_cases h2 : 0 ≤ xo
                      · have hd2 : decide (0 ≤ xo) = true := decide_eq_true h2
                        have HD2 := Lib.hid hd2
                        by_cases h3 : xo ≤ c9
                        · have hd3 : decide (xo ≤ c9) = true := decide_eq_true h3
                          have HD3 := Lib.hid hd3
                          go_quiet (fail)
                          clear y0 y1 y2 g0 g1 g2 g3 g4 v0 v1 h1 h2 h3 hd2 hd3
                          (try go_wp2)
                          go_roundw
                          case rel => exact ⟨p + 1, by omega, by go_num, by rw [HST.out, HE.out, HD2.out, HD3.out]; rfl, Hgf.out.kept (drewN_below (Below.refl _ W9) nq), Hgg.out.kept (drewN_below (Below.refl _ W9) nq), Hgk.out.kept (drewN_below (Below.refl _ W9) nq), drewN_below HB.out nq⟩
                          case measure => simp [intOf]; omega
                        · have hd3 : decide (xo ≤ c9) = false := decide_eq_false h3
                          have HD3 := Lib.hid hd3
                          go_quiet (fail)
                          clear y0 y1 y2 g0 g1 g2 g3 g4 v0 v1 h1 h2 h3 hd2 hd3
                          (try go_wp2)
                          go_roundw
                          case rel => exact ⟨p + 1, by omega, by go_num, by rw [HST.out, HE.out, HD2.out, HD3.out]; rfl, Hgf.out.kept (drewN_below (Below.refl _ W9) nq), Hgg.out.kept (drewN_below (Below.refl _ W9) nq), Hgk.out.kept (drewN_below (Below.refl _ W9) nq), drewN_below HB.out nq⟩
                          case measure => simp [intOf]; omega
                      · have hd2 : decide (0 ≤ xo) = false := decide_eq_false h2
                        have HD2 := Lib.hid hd2
                        go_quiet (fail)
                        clear y0 y1 y2 g0 g1 g2 g3 g4 v0 v1 h1 h2 hd2
                        (try go_wp2)
                        go_roundw
                        case rel => exact ⟨p + 1, by omega, by go_num, by rw [HST.out, HE.out, HD2.out]; rfl, Hgf.out.kept (drewN_below (Below.refl _ W9) nq), Hgg.out.kept (drewN_below (Below.refl _ W9) nq), Hgk.out.kept (drewN_below (Below.refl _ W9) nq), drewN_below HB.out nq⟩
                        case measure => simp [intOf]; omega
                · obtain rfl : p = J := by omega
                  have hh : hitN l b9 c9 p = true := by rw [← HJ.out]; exact HCM.out
                  rw [hh]
                  clear hh
                  go_upto_region 30 with (fail)
                  obtain ⟨g0, g1, g2, g3, g4⟩ := Hgg.out.cs
                  obtain ⟨d0, d1, d2, d3, d4⟩ := Hgf.out.cs
                  have z0 := Hgf.out.fz 0
                  have z1 := Hgf.out.fz 1
                  have z2 := Hgf.out.fz 2
                  have z3 := Hgf.out.fz 3
                  have z4 := Hgf.out.fz 4
                  (try go_wp2)
                  go_roundw
                  case rel => exact ⟨j + 1, k9, b9, t9, u9, mx, c9, by omega, by go_num, rfl, HGJ.out, HC9.out.1, HC9.out.2.1, Hgf.out.fill 1 k9 b9 t9 u9, ((((Hgk.out.other _ _ HNE.out.symm).other _ _ HNE.out.symm).other _ _ HNE.out.symm).other _ _ HNE.out.symm).other _ _ HNE.out.symm, bel5 HB.out HGK.out.2 _ _ _ _ _⟩
                  case measure => simp [intOf]; omega
            · have h4 : ¬ b < b9 := hri
              clear HGC
              clear h4
              go_upto_region 30 with (fail)
              obtain ⟨g0, g1, g2, g3, g4⟩ := Hgg.out.cs
              obtain ⟨d0, d1, d2, d3, d4⟩ := Hgf.out.cs
              have z0 := Hgf.out.fz 0
              have z1 := Hgf.out.fz 1
              have z2 := Hgf.out.fz 2
              have z3 := Hgf.out.fz 3
              have z4 := Hgf.out.fz 4
              (try go_wp2)
              go_roundw
              case rel => exact ⟨j + 1, k9, b9, t9, u9, mx, c9, by omega, by go_num, rfl, HGJ.out, HC9.out.1, HC9.out.2.1, Hgf.out.fill 1 k9 b9 t9 u9, ((((Hgk.out.other _ _ HNE.out.symm).other _ _ HNE.out.symm).other _ _ HNE.out.symm).other _ _ HNE.out.symm).other _ _ HNE.out.symm, bel5 HB.out HGK.out.2 _ _ _ _ _⟩
              case measure => simp [intOf]; omega
          · have hno : learnS ⟨1, k, b, t, u⟩ 1000 c9 ta to = (Ft.zero, 2) := learn_no (by
              by_cases h1 : ta < 0
              · exact .inr (.inl h1)
              · by_cases h2 : 1000 < ta
                · exact .inr (.inr (.inl (by rw [HMI.out ⟨1, k, b, t, u⟩ rfl]; exact h2)))
                · refine .inr (.inr (.inr ?_))
                  rw [Bool.eq_false_iff]
                  exact fun h3 => hok ⟨by omega, by omega, h3⟩)
            have he := HLE9.out.symm.trans hno
            injection he with he1 he2
            injection he1 with i0 i1 i2 i3 i4
            subst i0 i1 i2 i3 i4 he2
            clear hno
            have hse := fun W => fsettle_c 1 k b t u 1000 c9 W
            obtain ⟨⟨⟨s8, k8, b8, t8, u8⟩, e8⟩, hs8⟩ : ∃ z, settleS ⟨1, k, b, t, u⟩ 1000 c9 = z := ⟨_, rfl⟩
            rw [hs8] at hse
            simp only [ftR] at hse
            have HSE := Lib.hid hse
            have htold := HGR.out.rest (x := 1000) (y := c9) HVG.out hs8
            rw [HTH.out ⟨1, k, b, t, u⟩ rfl] at htold
            obtain ⟨rfl, hgj, hgb, hgc, hgs⟩ := htold
            simp only at hgb hgc hgs hgj
            subst hgs
            have HGJ := Lib.hid hgj
            have HGB := Lib.hid hgb
            have HGC := Lib.hid hgc
            clear hgj hgb hgc hse hs8
            obtain ⟨x0, x1, x2⟩ := Hgx.out.cs
            obtain ⟨d0, d1, d2, d3, d4⟩ := Hgf.out.cs
            have v0 := Hgk.out.c0
            have v1 := Hgk.out.c1
            go_upto_region 15 with (fail)
            have hbad : (0 ≤ ta → ta ≤ 1000 → 0 ≤ to → to ≤ 1099511627776 → False) := fun h1 h2 h3 h4 => hok ⟨h1, h2, seqS_iff.2 ⟨h3, h4⟩⟩
            have HBAD := Lib.hid hbad
            clear hbad hok
            have H17 : True := trivial
            by_cases b1 : 0 ≤ ta
            · by_cases b2 : ta ≤ 1000
              · by_cases b3 : 0 ≤ to
                · by_cases b4 : to ≤ 1099511627776
                  · exact (HBAD.out b1 b2 b3 b4).elim
                  · go_upto_region 17 with (fail)
                    clear b1 b2 b3 b4
                    go_upto_region 19 with (go_at_call 11; (with_reducible refine (HSE.out _).mono ?_); rintro e8 w8 ⟨rfl, hb8⟩; have HFG := Lib.hid (Hgg.out.kept hb8); obtain ⟨p0, p1, p2, p3, p4⟩ := HFG.out.cs; have z0 := HFG.out.fz 0; have z1 := HFG.out.fz 1; have z2 := HFG.out.fz 2; have z3 := HFG.out.fz 3; have z4 := HFG.out.fz 4; have Hgf := Lib.hid (Hgf.out.kept hb8); have Hgk := Lib.hid (Hgk.out.kept hb8); have HB := Lib.hid (HB.out.trans (hb8.mono HB.out.size)); clear hb8)
                    clear x0 x1 x2 d0 d1 d2 d3 d4 v0 v1 p0 p1 p2 p3 p4 z0 z1 z2 z3 z4 Hgx Hgg
                    have Hgf := Lib.hid (((((Hgf.out.other (p := ⟨gg, 0, none⟩) (.int .i64 1) HGN.out.2.1).other (p := ⟨gg, 1, none⟩) (.int .i64 k8) HGN.out.2.1).other (p := ⟨gg, 2, none⟩) (.int .i64 b8) HGN.out.2.1).other (p := ⟨gg, 3, none⟩) (.int .i64 t8) HGN.out.2.1).other (p := ⟨gg, 4, none⟩) (.int .i64 u8) HGN.out.2.1)
                    have Hgk := Lib.hid (((((Hgk.out.other ⟨gg, 0, none⟩ (.int .i64 1) HGN.out.1.symm).other ⟨gg, 1, none⟩ (.int .i64 k8) HGN.out.1.symm).other ⟨gg, 2, none⟩ (.int .i64 b8) HGN.out.1.symm).other ⟨gg, 3, none⟩ (.int .i64 t8) HGN.out.1.symm).other ⟨gg, 4, none⟩ (.int .i64 u8) HGN.out.1.symm)
                    have Hgg := Lib.hid (HFG.out.fill 1 k8 b8 t8 u8)
                    have HB := Lib.hid (bel5 HB.out HGN.out.2.2 (.int .i64 1) (.int .i64 k8) (.int .i64 b8) (.int .i64 t8) (.int .i64 u8))
                    generalize ((((w8.setCell ⟨gg, 0, none⟩ (.int .i64 1)).setCell ⟨gg, 1, none⟩ (.int .i64 k8)).setCell ⟨gg, 2, none⟩ (.int .i64 b8)).setCell ⟨gg, 3, none⟩ (.int .i64 t8)).setCell ⟨gg, 4, none⟩ (.int .i64 u8) = W8 at *
                    have Hgx := HB
                    obtain ⟨g0, g1, g2, g3, g4⟩ := Hgg.out.cs
                    have hgd := Ft.good_iff.1 HGJ.out.good
                    have hak : k8 = most := HGJ.out.ack
                    have h1 : ¬ b8 < b := by have := HGB.out; omega
                    have h2 : ¬ k8 < b8 := by have := hgd.2.2.2.2.2.1; simp only at this; omega
                    have h3 : (k8 != most) = false := by rw [hak]; simp
                    clear hgd
                    have HAK := Lib.hid hak
                    clear hak
                    go_upto_region 21 with (fail)
                    clear h1 h2 h3
                    by_cases hri : b < b8
                    · have HCM := Lib.hid (hit_came (HGC.out hri))
                      have hj1 : IntKind.i64.wrap ((j : Int) + 1) = ((j + 1 : Nat) : Int) := by rw [IntKind.wrap_i64]; have := HMM.out; omega
                      have hj2 : ((j + 1 : Nat) : Int) ≤ (cap : Int) := by omega
                      have hj3 : (0 : Int) ≤ ((j + 1 : Nat) : Int) := by omega
                      obtain ⟨J, hJ⟩ : ∃ z : Nat, j + 1 = z := ⟨_, rfl⟩
                      have hjJ : (j : Int) + 1 = (J : Int) := by omega
                      rw [hJ] at hj1 hj2 hj3
                      have HJ := Lib.hid hJ
                      clear hJ
                      go_upto_region 24 with (fail)
                      clear hri hj1 hj3 g0 g1 g2 g3 g4
                      go_loopw [15, 137] (fun v i wq => ∃ (p : Nat), p ≤ J ∧ i = .int .i64 (p : Int) ∧ v = .bool (hitN l b8 c9 p) ∧ Fb wq gf 23 1 k b t u ∧ Fb wq gg 23 1 k8 b8 t8 u8 ∧ Pair wq gk 25 1000 c9 ∧ Below w.heap.size w wq) (fun _ i _ => J - (intOf i).toNat)
                      case atStart => exact ⟨0, by omega, rfl, rfl, Hgf.out, Hgg.out, Hgk.out, HB.out⟩
                      case round =>
                        clear Hgf Hgg Hgk HB Hgx
                        obtain ⟨p, hp, rfl, rfl, hgf, hgg, hgk, hB⟩ := hrel
                        have Hgf := Lib.hid hgf
                        have Hgg := Lib.hid hgg
                        have Hgk := Lib.hid hgk
                        have HB := Lib.hid hB
                        clear hgf hgg hgk hB
                        by_cases hpl : p < J
                        · have hpi : (p : Int) < (J : Int) := by omega
                          have hpc : (p : Int) < (cap : Int) := by omega
                          obtain ⟨bl2, off2, eab, hat⟩ := HL.out.at (k := p) (by have := HJ.out; omega)
                          injection eab with eab
                          injection eab with eab1 eab2
                          subst eab1 eab2
                          obtain ⟨x, hx⟩ : ∃ x, l.getD p Tl.zero = x := ⟨_, rfl⟩
                          rw [hx] at hat
                          have hst : hitN l b8 c9 (p + 1) = (hitN l b8 c9 p || ((x.a == b8) && (decide (0 ≤ x.o) && decide (x.o ≤ c9)))) := by rw [← hx]; rfl
                          obtain ⟨xa, xo, xc⟩ := x
                          obtain ⟨c0, c1, c2⟩ := hat wr HB.out
                          simp only at c0 c1 c2 hst
                          have HST := Lib.hid hst
                          clear hat hx hst
                          go_upto_region 26 with (fail)
                          clear c0 c1 c2
                          have hsz := HB.out.size
                          have hx := Tb3.new wr xa xo xc
                          have hbx := alloc_below wr (.cells #[.int .i64 xa, .int .i64 xo, .int .i64 xc] 76)
                          have Hgf := Lib.hid (Hgf.out.kept hbx)
                          have Hgg := Lib.hid (Hgg.out.kept hbx)
                          have Hgk := Lib.hid (Hgk.out.kept hbx)
                          have HB := Lib.hid (HB.out.trans (hbx.mono HB.out.size))
                          obtain ⟨gy, hg⟩ : ∃ q, wr.heap.size = q := ⟨_, rfl⟩
                          rw [hg] at hx hsz  ⊢
                          have Hgy := Lib.hid hx
                          clear hx hbx hg hsz 
                          generalize wr.alloc (.cells #[.int .i64 xa, .int .i64 xo, .int .i64 xc] 76) = W9 at *
                          obtain ⟨y0, y1, y2⟩ := Hgy.out.cs
                          obtain ⟨g0, g1, g2, g3, g4⟩ := Hgg.out.cs
                          have v0 := Hgk.out.c0
                          have v1 := Hgk.out.c1
                          obtain ⟨R, hR⟩ : ∃ z, hitN l b8 c9 p = z := ⟨_, rfl⟩
                          rw [hR] at HST ⊢
                          clear hR
                          cases R with
                          | true =>
                            go_quiet (fail)
                            clear y0 y1 y2 g0 g1 g2 g3 g4 v0 v1
                            (try go_wp2)
                            go_roundw
                            case rel => exact ⟨p + 1, by omega, by go_num, by rw [HST.out]; rfl, Hgf.out.kept (drewN_below (Below.refl _ W9) nq), Hgg.out.kept (drewN_below (Below.refl _ W9) nq), Hgk.out.kept (drewN_below (Below.refl _ W9) nq), drewN_below HB.out nq⟩
                            case measure => simp [intOf]; omega
                          | false =>
                            cases h1 : (xa == b8) with
                            | false =>
                              have HE := Lib.hid h1
                              go_quiet (fail)
                              clear y0 y1 y2 g0 g1 g2 g3 g4 v0 v1 h1
                              (try go_wp2)
                              go_roundw
                              case rel => exact ⟨p + 1, by omega, by go_num, by rw [HST.out, HE.out]; rfl, Hgf.out.kept (drewN_below (Below.refl _ W9) nq), Hgg.out.kept (drewN_below (Below.refl _ W9) nq), Hgk.out.kept (drewN_below (Below.refl _ W9) nq), drewN_below HB.out nq⟩
                              case measure => simp [intOf]; omega
                            | true =>
                              have HE := Lib.hid h1
                              by_cases h2 : 0 ≤ xo
                              · have hd2 : decide (0 ≤ xo) = true := decide_eq_true h2
                                have HD2 := Lib.hid hd2
                                by_cases h3 : xo ≤ c9
                                · have hd3 : decide (xo ≤ c9) = true := decide_eq_true h3
                                  have HD3 := Lib.hid hd3
                                  go_quiet (fail)
                                  clear y0 y1 y2 g0 g1 g2 g3 g4 v0 v1 h1 h2 h3 hd2 hd3
                                  (try go_wp2)
                                  go_roundw
                                  case rel => exact ⟨p + 1, by omega, by go_num, by rw [HST.out, HE.out, HD2.out, HD3.out]; rfl, Hgf.out.kept (drewN_below (Below.refl _ W9) nq), Hgg.out.kept (drewN_below (Below.refl _ W9) nq), Hgk.out.kept (drewN_below (Below.refl _ W9) nq), drewN_below HB.out nq⟩
                                  case measure => simp [intOf]; omega
                                · have hd3 : decide (xo ≤ c9) = false := decide_eq_false h3
                                  have HD3 := Lib.hid hd3
                                  go_quiet (fail)
                                  clear y0 y1 y2 g0 g1 g2 g3 g4 v0 v1 h1 h2 h3 hd2 hd3
                                  (try go_wp2)
                                  go_roundw
                                  case rel => exact ⟨p + 1, by omega, by go_num, by rw [HST.out, HE.out, HD2.out, HD3.out]; rfl, Hgf.out.kept (drewN_below (Below.refl _ W9) nq), Hgg.out.kept (drewN_below (Below.refl _ W9) nq), Hgk.out.kept (drewN_below (Below.refl _ W9) nq), drewN_below HB.out nq⟩
                                  case measure => simp [intOf]; omega
                              · have hd2 : decide (0 ≤ xo) = false := decide_eq_false h2
                                have HD2 := Lib.hid hd2
                                go_quiet (fail)
                                clear y0 y1 y2 g0 g1 g2 g3 g4 v0 v1 h1 h2 hd2
                                (try go_wp2)
                                go_roundw
                                case rel => exact ⟨p + 1, by omega, by go_num, by rw [HST.out, HE.out, HD2.out]; rfl, Hgf.out.kept (drewN_below (Below.refl _ W9) nq), Hgg.out.kept (drewN_below (Below.refl _ W9) nq), Hgk.out.kept (drewN_below (Below.refl _ W9) nq), drewN_below HB.out nq⟩
                                case measure => simp [intOf]; omega
                        · obtain rfl : p = J := by omega
                          have hh : hitN l b8 c9 p = true := by rw [← HJ.out]; exact HCM.out
                          rw [hh]
                          clear hh
                          go_upto_region 30 with (fail)
                          obtain ⟨g0, g1, g2, g3, g4⟩ := Hgg.out.cs
                          obtain ⟨d0, d1, d2, d3, d4⟩ := Hgf.out.cs
                          have z0 := Hgf.out.fz 0
                          have z1 := Hgf.out.fz 1
                          have z2 := Hgf.out.fz 2
                          have z3 := Hgf.out.fz 3
                          have z4 := Hgf.out.fz 4
                          (try go_wp2)
                          go_roundw
                          case rel => exact ⟨j + 1, k8, b8, t8, u8, most, c9, by omega, by go_num, rfl, HGJ.out, HC9.out.1, HC9.out.2.1, Hgf.out.fill 1 k8 b8 t8 u8, ((((Hgk.out.other _ _ HNE.out.symm).other _ _ HNE.out.symm).other _ _ HNE.out.symm).other _ _ HNE.out.symm).other _ _ HNE.out.symm, bel5 HB.out HGK.out.2 _ _ _ _ _⟩
                          case measure => simp [intOf]; omega
                    · have h4 : ¬ b < b8 := hri
                      clear HGC
                      clear h4
                      go_upto_region 30 with (fail)
                      obtain ⟨g0, g1, g2, g3, g4⟩ := Hgg.out.cs
                      obtain ⟨d0, d1, d2, d3, d4⟩ := Hgf.out.cs
                      have z0 := Hgf.out.fz 0
                      have z1 := Hgf.out.fz 1
                      have z2 := Hgf.out.fz 2
                      have z3 := Hgf.out.fz 3
                      have z4 := Hgf.out.fz 4
                      (try go_wp2)
                      go_roundw
                      case rel => exact ⟨j + 1, k8, b8, t8, u8, most, c9, by omega, by go_num, rfl, HGJ.out, HC9.out.1, HC9.out.2.1, Hgf.out.fill 1 k8 b8 t8 u8, ((((Hgk.out.other _ _ HNE.out.symm).other _ _ HNE.out.symm).other _ _ HNE.out.symm).other _ _ HNE.out.symm).other _ _ HNE.out.symm, bel5 HB.out HGK.out.2 _ _ _ _ _⟩
                      case measure => simp [intOf]; omega
                · go_upto_region 17 with (fail)
                  clear b1 b2 b3
                  go_upto_region 19 with (go_at_call 11; (with_reducible refine (HSE.out _).mono ?_); rintro e8 w8 ⟨rfl, hb8⟩; have HFG := Lib.hid (Hgg.out.kept hb8); obtain ⟨p0, p1, p2, p3, p4⟩ := HFG.out.cs; have z0 := HFG.out.fz 0; have z1 := HFG.out.fz 1; have z2 := HFG.out.fz 2; have z3 := HFG.out.fz 3; have z4 := HFG.out.fz 4; have Hgf := Lib.hid (Hgf.out.kept hb8); have Hgk := Lib.hid (Hgk.out.kept hb8); have HB := Lib.hid (HB.out.trans (hb8.mono HB.out.size)); clear hb8)
                  clear x0 x1 x2 d0 d1 d2 d3 d4 v0 v1 p0 p1 p2 p3 p4 z0 z1 z2 z3 z4 Hgx Hgg
                  have Hgf := Lib.hid (((((Hgf.out.other (p := ⟨gg, 0, none⟩) (.int .i64 1) HGN.out.2.1).other (p := ⟨gg, 1, none⟩) (.int .i64 k8) HGN.out.2.1).other (p := ⟨gg, 2, none⟩) (.int .i64 b8) HGN.out.2.1).other (p := ⟨gg, 3, none⟩) (.int .i64 t8) HGN.out.2.1).other (p := ⟨gg, 4, none⟩) (.int .i64 u8) HGN.out.2.1)
                  have Hgk := Lib.hid (((((Hgk.out.other ⟨gg, 0, none⟩ (.int .i64 1) HGN.out.1.symm).other ⟨gg, 1, none⟩ (.int .i64 k8) HGN.out.1.symm).other ⟨gg, 2, none⟩ (.int .i64 b8) HGN.out.1.symm).other ⟨gg, 3, none⟩ (.int .i64 t8) HGN.out.1.symm).other ⟨gg, 4, none⟩ (.int .i64 u8) HGN.out.1.symm)
                  have Hgg := Lib.hid (HFG.out.fill 1 k8 b8 t8 u8)
                  have HB := Lib.hid (bel5 HB.out HGN.out.2.2 (.int .i64 1) (.int .i64 k8) (.int .i64 b8) (.int .i64 t8) (.int .i64 u8))
                  generalize ((((w8.setCell ⟨gg, 0, none⟩ (.int .i64 1)).setCell ⟨gg, 1, none⟩ (.int .i64 k8)).setCell ⟨gg, 2, none⟩ (.int .i64 b8)).setCell ⟨gg, 3, none⟩ (.int .i64 t8)).setCell ⟨gg, 4, none⟩ (.int .i64 u8) = W8 at *
                  have Hgx := HB
                  obtain ⟨g0, g1, g2, g3, g4⟩ := Hgg.out.cs
                  have hgd := Ft.good_iff.1 HGJ.out.good
                  have hak : k8 = most := HGJ.out.ack
                  have h1 : ¬ b8 < b := by have := HGB.out; omega
                  have h2 : ¬ k8 < b8 := by have := hgd.2.2.2.2.2.1; simp only at this; omega
                  have h3 : (k8 != most) = false := by rw [hak]; simp
                  clear hgd
                  have HAK := Lib.hid hak
                  clear hak
                  go_upto_region 21 with (fail)
                  clear h1 h2 h3
                  by_cases hri : b < b8
                  · have HCM := Lib.hid (hit_came (HGC.out hri))
                    have hj1 : IntKind.i64.wrap ((j : Int) + 1) = ((j + 1 : Nat) : Int) := by rw [IntKind.wrap_i64]; have := HMM.out; omega
                    have hj2 : ((j + 1 : Nat) : Int) ≤ (cap : Int) := by omega
                    have hj3 : (0 : Int) ≤ ((j + 1 : Nat) : Int) := by omega
                    obtain ⟨J, hJ⟩ : ∃ z : Nat, j + 1 = z := ⟨_, rfl⟩
                    have hjJ : (j : Int) + 1 = (J : Int) := by omega
                    rw [hJ] at hj1 hj2 hj3
                    have HJ := Lib.hid hJ
                    clear hJ
                    go_upto_region 24 with (fail)
                    clear hri hj1 hj3 g0 g1 g2 g3 g4
                    go_loopw [15, 137] (fun v i wq => ∃ (p : Nat), p ≤ J ∧ i = .int .i64 (p : Int) ∧ v = .bool (hitN l b8 c9 p) ∧ Fb wq gf 23 1 k b t u ∧ Fb wq gg 23 1 k8 b8 t8 u8 ∧ Pair wq gk 25 1000 c9 ∧ Below w.heap.size w wq) (fun _ i _ => J - (intOf i).toNat)
                    case atStart => exact ⟨0, by omega, rfl, rfl, Hgf.out, Hgg.out, Hgk.out, HB.out⟩
                    case round =>
                      clear Hgf Hgg Hgk HB Hgx
                      obtain ⟨p, hp, rfl, rfl, hgf, hgg, hgk, hB⟩ := hrel
                      have Hgf := Lib.hid hgf
                      have Hgg := Lib.hid hgg
                      have Hgk := Lib.hid hgk
                      have HB := Lib.hid hB
                      clear hgf hgg hgk hB
                      by_cases hpl : p < J
                      · have hpi : (p : Int) < (J : Int) := by omega
                        have hpc : (p : Int) < (cap : Int) := by omega
                        obtain ⟨bl2, off2, eab, hat⟩ := HL.out.at (k := p) (by have := HJ.out; omega)
                        injection eab with eab
                        injection eab with eab1 eab2
                        subst eab1 eab2
                        obtain ⟨x, hx⟩ : ∃ x, l.getD p Tl.zero = x := ⟨_, rfl⟩
                        rw [hx] at hat
                        have hst : hitN l b8 c9 (p + 1) = (hitN l b8 c9 p || ((x.a == b8) && (decide (0 ≤ x.o) && decide (x.o ≤ c9)))) := by rw [← hx]; rfl
                        obtain ⟨xa, xo, xc⟩ := x
                        obtain ⟨c0, c1, c2⟩ := hat wr HB.out
                        simp only at c0 c1 c2 hst
                        have HST := Lib.hid hst
                        clear hat hx hst
                        go_upto_region 26 with (fail)
                        clear c0 c1 c2
                        have hsz := HB.out.size
                        have hx := Tb3.new wr xa xo xc
                        have hbx := alloc_below wr (.cells #[.int .i64 xa, .int .i64 xo, .int .i64 xc] 76)
                        have Hgf := Lib.hid (Hgf.out.kept hbx)
                        have Hgg := Lib.hid (Hgg.out.kept hbx)
                        have Hgk := Lib.hid (Hgk.out.kept hbx)
                        have HB := Lib.hid (HB.out.trans (hbx.mono HB.out.size))
                        obtain ⟨gy, hg⟩ : ∃ q, wr.heap.size = q := ⟨_, rfl⟩
                        rw [hg] at hx hsz  ⊢
                        have Hgy := Lib.hid hx
                        clear hx hbx hg hsz 
                        generalize wr.alloc (.cells #[.int .i64 xa, .int .i64 xo, .int .i64 xc] 76) = W9 at *
                        obtain ⟨y0, y1, y2⟩ := Hgy.out.cs
                        obtain ⟨g0, g1, g2, g3, g4⟩ := Hgg.out.cs
                        have v0 := Hgk.out.c0
                        have v1 := Hgk.out.c1
                        obtain ⟨R, hR⟩ : ∃ z, hitN l b8 c9 p = z := ⟨_, rfl⟩
                        rw [hR] at HST ⊢
                        clear hR
                        cases R with
                        | true =>
                          go_quiet (fail)
                          clear y0 y1 y2 g0 g1 g2 g3 g4 v0 v1
                          (try go_wp2)
                          go_roundw
                          case rel => exact ⟨p + 1, by omega, by go_num, by rw [HST.out]; rfl, Hgf.out.kept (drewN_below (Below.refl _ W9) nq), Hgg.out.kept (drewN_below (Below.refl _ W9) nq), Hgk.out.kept (drewN_below (Below.refl _ W9) nq), drewN_below HB.out nq⟩
                          case measure => simp [intOf]; omega
                        | false =>
                          cases h1 : (xa == b8) with
                          | false =>
                            have HE := Lib.hid h1
                            go_quiet (fail)
                            clear y0 y1 y2 g0 g1 g2 g3 g4 v0 v1 h1
                            (try go_wp2)
                            go_roundw
                            case rel => exact ⟨p + 1, by omega, by go_num, by rw [HST.out, HE.out]; rfl, Hgf.out.kept (drewN_below (Below.refl _ W9) nq), Hgg.out.kept (drewN_below (Below.refl _ W9) nq), Hgk.out.kept (drewN_below (Below.refl _ W9) nq), drewN_below HB.out nq⟩
                            case measure => simp [intOf]; omega
                          | true =>
                            have HE := Lib.hid h1
                            by_cases h2 : 0 ≤ xo
                            · have hd2 : decide (0 ≤ xo) = true := decide_eq_true h2
                              have HD2 := Lib.hid hd2
                              by_cases h3 : xo ≤ c9
                              · have hd3 : decide (xo ≤ c9) = true := decide_eq_true h3
                                have HD3 := Lib.hid hd3
                                go_quiet (fail)
                                clear y0 y1 y2 g0 g1 g2 g3 g4 v0 v1 h1 h2 h3 hd2 hd3
                                (try go_wp2)
                                go_roundw
                                case rel => exact ⟨p + 1, by omega, by go_num, by rw [HST.out, HE.out, HD2.out, HD3.out]; rfl, Hgf.out.kept (drewN_below (Below.refl _ W9) nq), Hgg.out.kept (drewN_below (Below.refl _ W9) nq), Hgk.out.kept (drewN_below (Below.refl _ W9) nq), drewN_below HB.out nq⟩
                                case measure => simp [intOf]; omega
                              · have hd3 : decide (xo ≤ c9) = false := decide_eq_false h3
                                have HD3 := Lib.hid hd3
                                go_quiet (fail)
                                clear y0 y1 y2 g0 g1 g2 g3 g4 v0 v1 h1 h2 h3 hd2 hd3
                                (try go_wp2)
                                go_roundw
                                case rel => exact ⟨p + 1, by omega, by go_num, by rw [HST.out, HE.out, HD2.out, HD3.out]; rfl, Hgf.out.kept (drewN_below (Below.refl _ W9) nq), Hgg.out.kept (drewN_below (Below.refl _ W9) nq), Hgk.out.kept (drewN_below (Below.refl _ W9) nq), drewN_below HB.out nq⟩
                                case measure => simp [intOf]; omega
                            · have hd2 : decide (0 ≤ xo) = false := decide_eq_false h2
                              have HD2 := Lib.hid hd2
                              go_quiet (fail)
                              clear y0 y1 y2 g0 g1 g2 g3 g4 v0 v1 h1 h2 hd2
                              (try go_wp2)
                              go_roundw
                              case rel => exact ⟨p + 1, by omega, by go_num, by rw [HST.out, HE.out, HD2.out]; rfl, Hgf.out.kept (drewN_below (Below.refl _ W9) nq), Hgg.out.kept (drewN_below (Below.refl _ W9) nq), Hgk.out.kept (drewN_below (Below.refl _ W9) nq), drewN_below HB.out nq⟩
                              case measure => simp [intOf]; omega
                      · obtain rfl : p = J := by omega
                        have hh : hitN l b8 c9 p = true := by rw [← HJ.out]; exact HCM.out
                        rw [hh]
                        clear hh
                        go_upto_region 30 with (fail)
                        obtain ⟨g0, g1, g2, g3, g4⟩ := Hgg.out.cs
                        obtain ⟨d0, d1, d2, d3, d4⟩ := Hgf.out.cs
                        have z0 := Hgf.out.fz 0
                        have z1 := Hgf.out.fz 1
                        have z2 := Hgf.out.fz 2
                        have z3 := Hgf.out.fz 3
                        have z4 := Hgf.out.fz 4
                        (try go_wp2)
                        go_roundw
                        case rel => exact ⟨j + 1, k8, b8, t8, u8, most, c9, by omega, by go_num, rfl, HGJ.out, HC9.out.1, HC9.out.2.1, Hgf.out.fill 1 k8 b8 t8 u8, ((((Hgk.out.other _ _ HNE.out.symm).other _ _ HNE.out.symm).other _ _ HNE.out.symm).other _ _ HNE.out.symm).other _ _ HNE.out.symm, bel5 HB.out HGK.out.2 _ _ _ _ _⟩
                        case measure => simp [intOf]; omega
                  · have h4 : ¬ b < b8 := hri
                    clear HGC
                    clear h4
                    go_upto_region 30 with (fail)
                    obtain ⟨g0, g1, g2, g3, g4⟩ := Hgg.out.cs
                    obtain ⟨d0, d1, d2, d3, d4⟩ := Hgf.out.cs
                    have z0 := Hgf.out.fz 0
                    have z1 := Hgf.out.fz 1
                    have z2 := Hgf.out.fz 2
                    have z3 := Hgf.out.fz 3
                    have z4 := Hgf.out.fz 4
                    (try go_wp2)
                    go_roundw
                    case rel => exact ⟨j + 1, k8, b8, t8, u8, most, c9, by omega, by go_num, rfl, HGJ.out, HC9.out.1, HC9.out.2.1, Hgf.out.fill 1 k8 b8 t8 u8, ((((Hgk.out.other _ _ HNE.out.symm).other _ _ HNE.out.symm).other _ _ HNE.out.symm).other _ _ HNE.out.symm).other _ _ HNE.out.symm, bel5 HB.out HGK.out.2 _ _ _ _ _⟩
                    case measure => simp [intOf]; omega
              · go_upto_region 17 with (fail)
                clear b1 b2
                go_upto_region 19 with (go_at_call 11; (with_reducible refine (HSE.out _).mono ?_); rintro e8 w8 ⟨rfl, hb8⟩; have HFG := Lib.hid (Hgg.out.kept hb8); obtain ⟨p0, p1, p2, p3, p4⟩ := HFG.out.cs; have z0 := HFG.out.fz 0; have z1 := HFG.out.fz 1; have z2 := HFG.out.fz 2; have z3 := HFG.out.fz 3; have z4 := HFG.out.fz 4; have Hgf := Lib.hid (Hgf.out.kept hb8); have Hgk := Lib.hid (Hgk.out.kept hb8); have HB := Lib.hid (HB.out.trans (hb8.mono HB.out.size)); clear hb8)
                clear x0 x1 x2 d0 d1 d2 d3 d4 v0 v1 p0 p1 p2 p3 p4 z0 z1 z2 z3 z4 Hgx Hgg
                have Hgf := Lib.hid (((((Hgf.out.other (p := ⟨gg, 0, none⟩) (.int .i64 1) HGN.out.2.1).other (p := ⟨gg, 1, none⟩) (.int .i64 k8) HGN.out.2.1).other (p := ⟨gg, 2, none⟩) (.int .i64 b8) HGN.out.2.1).other (p := ⟨gg, 3, none⟩) (.int .i64 t8) HGN.out.2.1).other (p := ⟨gg, 4, none⟩) (.int .i64 u8) HGN.out.2.1)
                have Hgk := Lib.hid (((((Hgk.out.other ⟨gg, 0, none⟩ (.int .i64 1) HGN.out.1.symm).other ⟨gg, 1, none⟩ (.int .i64 k8) HGN.out.1.symm).other ⟨gg, 2, none⟩ (.int .i64 b8) HGN.out.1.symm).other ⟨gg, 3, none⟩ (.int .i64 t8) HGN.out.1.symm).other ⟨gg, 4, none⟩ (.int .i64 u8) HGN.out.1.symm)
                have Hgg := Lib.hid (HFG.out.fill 1 k8 b8 t8 u8)
                have HB := Lib.hid (bel5 HB.out HGN.out.2.2 (.int .i64 1) (.int .i64 k8) (.int .i64 b8) (.int .i64 t8) (.int .i64 u8))
                generalize ((((w8.setCell ⟨gg, 0, none⟩ (.int .i64 1)).setCell ⟨gg, 1, none⟩ (.int .i64 k8)).setCell ⟨gg, 2, none⟩ (.int .i64 b8)).setCell ⟨gg, 3, none⟩ (.int .i64 t8)).setCell ⟨gg, 4, none⟩ (.int .i64 u8) = W8 at *
                have Hgx := HB
                obtain ⟨g0, g1, g2, g3, g4⟩ := Hgg.out.cs
                have hgd := Ft.good_iff.1 HGJ.out.good
                have hak : k8 = most := HGJ.out.ack
                have h1 : ¬ b8 < b := by have := HGB.out; omega
                have h2 : ¬ k8 < b8 := by have := hgd.2.2.2.2.2.1; simp only at this; omega
                have h3 : (k8 != most) = false := by rw [hak]; simp
                clear hgd
                have HAK := Lib.hid hak
                clear hak
                go_upto_region 21 with (fail)
                clear h1 h2 h3
                by_cases hri : b < b8
                · have HCM := Lib.hid (hit_came (HGC.out hri))
                  have hj1 : IntKind.i64.wrap ((j : Int) + 1) = ((j + 1 : Nat) : Int) := by rw [IntKind.wrap_i64]; have := HMM.out; omega
                  have hj2 : ((j + 1 : Nat) : Int) ≤ (cap : Int) := by omega
                  have hj3 : (0 : Int) ≤ ((j + 1 : Nat) : Int) := by omega
                  obtain ⟨J, hJ⟩ : ∃ z : Nat, j + 1 = z := ⟨_, rfl⟩
                  have hjJ : (j : Int) + 1 = (J : Int) := by omega
                  rw [hJ] at hj1 hj2 hj3
                  have HJ := Lib.hid hJ
                  clear hJ
                  go_upto_region 24 with (fail)
                  clear hri hj1 hj3 g0 g1 g2 g3 g4
                  go_loopw [15, 137] (fun v i wq => ∃ (p : Nat), p ≤ J ∧ i = .int .i64 (p : Int) ∧ v = .bool (hitN l b8 c9 p) ∧ Fb wq gf 23 1 k b t u ∧ Fb wq gg 23 1 k8 b8 t8 u8 ∧ Pair wq gk 25 1000 c9 ∧ Below w.heap.size w wq) (fun _ i _ => J - (intOf i).toNat)
                  case atStart => exact ⟨0, by omega, rfl, rfl, Hgf.out, Hgg.out, Hgk.out, HB.out⟩
                  case round =>
                    clear Hgf Hgg Hgk HB Hgx
                    obtain ⟨p, hp, rfl, rfl, hgf, hgg, hgk, hB⟩ := hrel
                    have Hgf := Lib.hid hgf
                    have Hgg := Lib.hid hgg
                    have Hgk := Lib.hid hgk
                    have HB := Lib.hid hB
                    clear hgf hgg hgk hB
                    by_cases hpl : p < J
                    · have hpi : (p : Int) < (J : Int) := by omega
                      have hpc : (p : Int) < (cap : Int) := by omega
                      obtain ⟨bl2, off2, eab, hat⟩ := HL.out.at (k := p) (by have := HJ.out; omega)
                      injection eab with eab
                      injection eab with eab1 eab2
                      subst eab1 eab2
                      obtain ⟨x, hx⟩ : ∃ x, l.getD p Tl.zero = x := ⟨_, rfl⟩
                      rw [hx] at hat
                      have hst : hitN l b8 c9 (p + 1) = (hitN l b8 c9 p || ((x.a == b8) && (decide (0 ≤ x.o) && decide (x.o ≤ c9)))) := by rw [← hx]; rfl
                      obtain ⟨xa, xo, xc⟩ := x
                      obtain ⟨c0, c1, c2⟩ := hat wr HB.out
                      simp only at c0 c1 c2 hst
                      have HST := Lib.hid hst
                      clear hat hx hst
                      go_upto_region 26 with (fail)
                      clear c0 c1 c2
                      have hsz := HB.out.size
                      have hx := Tb3.new wr xa xo xc
                      have hbx := alloc_below wr (.cells #[.int .i64 xa, .int .i64 xo, .int .i64 xc] 76)
                      have Hgf := Lib.hid (Hgf.out.kept hbx)
                      have Hgg := Lib.hid (Hgg.out.kept hbx)
                      have Hgk := Lib.hid (Hgk.out.kept hbx)
                      have HB := Lib.hid (HB.out.trans (hbx.mono HB.out.size))
                      obtain ⟨gy, hg⟩ : ∃ q, wr.heap.size = q := ⟨_, rfl⟩
                      rw [hg] at hx hsz  ⊢
                      have Hgy := Lib.hid hx
                      clear hx hbx hg hsz 
                      generalize wr.alloc (.cells #[.int .i64 xa, .int .i64 xo, .int .i64 xc] 76) = W9 at *
                      obtain ⟨y0, y1, y2⟩ := Hgy.out.cs
                      obtain ⟨g0, g1, g2, g3, g4⟩ := Hgg.out.cs
                      have v0 := Hgk.out.c0
                      have v1 := Hgk.out.c1
                      obtain ⟨R, hR⟩ : ∃ z, hitN l b8 c9 p = z := ⟨_, rfl⟩
                      rw [hR] at HST ⊢
                      clear hR
                      cases R with
                      | true =>
                        go_quiet (fail)
                        clear y0 y1 y2 g0 g1 g2 g3 g4 v0 v1
                        (try go_wp2)
                        go_roundw
                        case rel => exact ⟨p + 1, by omega, by go_num, by rw [HST.out]; rfl, Hgf.out.kept (drewN_below (Below.refl _ W9) nq), Hgg.out.kept (drewN_below (Below.refl _ W9) nq), Hgk.out.kept (drewN_below (Below.refl _ W9) nq), drewN_below HB.out nq⟩
                        case measure => simp [intOf]; omega
                      | false =>
                        cases h1 : (xa == b8) with
                        | false =>
                          have HE := Lib.hid h1
                          go_quiet (fail)
                          clear y0 y1 y2 g0 g1 g2 g3 g4 v0 v1 h1
                          (try go_wp2)
                          go_roundw
                          case rel => exact ⟨p + 1, by omega, by go_num, by rw [HST.out, HE.out]; rfl, Hgf.out.kept (drewN_below (Below.refl _ W9) nq), Hgg.out.kept (drewN_below (Below.refl _ W9) nq), Hgk.out.kept (drewN_below (Below.refl _ W9) nq), drewN_below HB.out nq⟩
                          case measure => simp [intOf]; omega
                        | true =>
                          have HE := Lib.hid h1
                          by_cases h2 : 0 ≤ xo
                          · have hd2 : decide (0 ≤ xo) = true := decide_eq_true h2
                            have HD2 := Lib.hid hd2
                            by_cases h3 : xo ≤ c9
                            · have hd3 : decide (xo ≤ c9) = true := decide_eq_true h3
                              have HD3 := Lib.hid hd3
                              go_quiet (fail)
                              clear y0 y1 y2 g0 g1 g2 g3 g4 v0 v1 h1 h2 h3 hd2 hd3
                              (try go_wp2)
                              go_roundw
                              case rel => exact ⟨p + 1, by omega, by go_num, by rw [HST.out, HE.out, HD2.out, HD3.out]; rfl, Hgf.out.kept (drewN_below (Below.refl _ W9) nq), Hgg.out.kept (drewN_below (Below.refl _ W9) nq), Hgk.out.kept (drewN_below (Below.refl _ W9) nq), drewN_below HB.out nq⟩
                              case measure => simp [intOf]; omega
                            · have hd3 : decide (xo ≤ c9) = false := decide_eq_false h3
                              have HD3 := Lib.hid hd3
                              go_quiet (fail)
                              clear y0 y1 y2 g0 g1 g2 g3 g4 v0 v1 h1 h2 h3 hd2 hd3
                              (try go_wp2)
                              go_roundw
                              case rel => exact ⟨p + 1, by omega, by go_num, by rw [HST.out, HE.out, HD2.out, HD3.out]; rfl, Hgf.out.kept (drewN_below (Below.refl _ W9) nq), Hgg.out.kept (drewN_below (Below.refl _ W9) nq), Hgk.out.kept (drewN_below (Below.refl _ W9) nq), drewN_below HB.out nq⟩
                              case measure => simp [intOf]; omega
                          · have hd2 : decide (0 ≤ xo) = false := decide_eq_false h2
                            have HD2 := Lib.hid hd2
                            go_quiet (fail)
                            clear y0 y1 y2 g0 g1 g2 g3 g4 v0 v1 h1 h2 hd2
                            (try go_wp2)
                            go_roundw
                            case rel => exact ⟨p + 1, by omega, by go_num, by rw [HST.out, HE.out, HD2.out]; rfl, Hgf.out.kept (drewN_below (Below.refl _ W9) nq), Hgg.out.kept (drewN_below (Below.refl _ W9) nq), Hgk.out.kept (drewN_below (Below.refl _ W9) nq), drewN_below HB.out nq⟩
                            case measure => simp [intOf]; omega
                    · obtain rfl : p = J := by omega
                      have hh : hitN l b8 c9 p = true := by rw [← HJ.out]; exact HCM.out
                      rw [hh]
                      clear hh
                      go_upto_region 30 with (fail)
                      obtain ⟨g0, g1, g2, g3, g4⟩ := Hgg.out.cs
                      obtain ⟨d0, d1, d2, d3, d4⟩ := Hgf.out.cs
                      have z0 := Hgf.out.fz 0
                      have z1 := Hgf.out.fz 1
                      have z2 := Hgf.out.fz 2
                      have z3 := Hgf.out.fz 3
                      have z4 := Hgf.out.fz 4
                      (try go_wp2)
                      go_roundw
                      case rel => exact ⟨j + 1, k8, b8, t8, u8, most, c9, by omega, by go_num, rfl, HGJ.out, HC9.out.1, HC9.out.2.1, Hgf.out.fill 1 k8 b8 t8 u8, ((((Hgk.out.other _ _ HNE.out.symm).other _ _ HNE.out.symm).other _ _ HNE.out.symm).other _ _ HNE.out.symm).other _ _ HNE.out.symm, bel5 HB.out HGK.out.2 _ _ _ _ _⟩
                      case measure => simp [intOf]; omega
                · have h4 : ¬ b < b8 := hri
                  clear HGC
                  clear h4
                  go_upto_region 30 with (fail)
                  obtain ⟨g0, g1, g2, g3, g4⟩ := Hgg.out.cs
                  obtain ⟨d0, d1, d2, d3, d4⟩ := Hgf.out.cs
                  have z0 := Hgf.out.fz 0
                  have z1 := Hgf.out.fz 1
                  have z2 := Hgf.out.fz 2
                  have z3 := Hgf.out.fz 3
                  have z4 := Hgf.out.fz 4
                  (try go_wp2)
                  go_roundw
                  case rel => exact ⟨j + 1, k8, b8, t8, u8, most, c9, by omega, by go_num, rfl, HGJ.out, HC9.out.1, HC9.out.2.1, Hgf.out.fill 1 k8 b8 t8 u8, ((((Hgk.out.other _ _ HNE.out.symm).other _ _ HNE.out.symm).other _ _ HNE.out.symm).other _ _ HNE.out.symm).other _ _ HNE.out.symm, bel5 HB.out HGK.out.2 _ _ _ _ _⟩
                  case measure => simp [intOf]; omega
            · go_upto_region 17 with (fail)
              clear b1
              go_upto_region 19 with (go_at_call 11; (with_reducible refine (HSE.out _).mono ?_); rintro e8 w8 ⟨rfl, hb8⟩; have HFG := Lib.hid (Hgg.out.kept hb8); obtain ⟨p0, p1, p2, p3, p4⟩ := HFG.out.cs; have z0 := HFG.out.fz 0; have z1 := HFG.out.fz 1; have z2 := HFG.out.fz 2; have z3 := HFG.out.fz 3; have z4 := HFG.out.fz 4; have Hgf := Lib.hid (Hgf.out.kept hb8); have Hgk := Lib.hid (Hgk.out.kept hb8); have HB := Lib.hid (HB.out.trans (hb8.mono HB.out.size)); clear hb8)
              clear x0 x1 x2 d0 d1 d2 d3 d4 v0 v1 p0 p1 p2 p3 p4 z0 z1 z2 z3 z4 Hgx Hgg
              have Hgf := Lib.hid (((((Hgf.out.other (p := ⟨gg, 0, none⟩) (.int .i64 1) HGN.out.2.1).other (p := ⟨gg, 1, none⟩) (.int .i64 k8) HGN.out.2.1).other (p := ⟨gg, 2, none⟩) (.int .i64 b8) HGN.out.2.1).other (p := ⟨gg, 3, none⟩) (.int .i64 t8) HGN.out.2.1).other (p := ⟨gg, 4, none⟩) (.int .i64 u8) HGN.out.2.1)
              have Hgk := Lib.hid (((((Hgk.out.other ⟨gg, 0, none⟩ (.int .i64 1) HGN.out.1.symm).other ⟨gg, 1, none⟩ (.int .i64 k8) HGN.out.1.symm).other ⟨gg, 2, none⟩ (.int .i64 b8) HGN.out.1.symm).other ⟨gg, 3, none⟩ (.int .i64 t8) HGN.out.1.symm).other ⟨gg, 4, none⟩ (.int .i64 u8) HGN.out.1.symm)
              have Hgg := Lib.hid (HFG.out.fill 1 k8 b8 t8 u8)
              have HB := Lib.hid (bel5 HB.out HGN.out.2.2 (.int .i64 1) (.int .i64 k8) (.int .i64 b8) (.int .i64 t8) (.int .i64 u8))
              generalize ((((w8.setCell ⟨gg, 0, none⟩ (.int .i64 1)).setCell ⟨gg, 1, none⟩ (.int .i64 k8)).setCell ⟨gg, 2, none⟩ (.int .i64 b8)).setCell ⟨gg, 3, none⟩ (.int .i64 t8)).setCell ⟨gg, 4, none⟩ (.int .i64 u8) = W8 at *
              have Hgx := HB
              obtain ⟨g0, g1, g2, g3, g4⟩ := Hgg.out.cs
              have hgd := Ft.good_iff.1 HGJ.out.good
              have hak : k8 = most := HGJ.out.ack
              have h1 : ¬ b8 < b := by have := HGB.out; omega
              have h2 : ¬ k8 < b8 := by have := hgd.2.2.2.2.2.1; simp only at this; omega
              have h3 : (k8 != most) = false := by rw [hak]; simp
              clear hgd
              have HAK := Lib.hid hak
              clear hak
              go_upto_region 21 with (fail)
              clear h1 h2 h3
              by_cases hri : b < b8
              · have HCM := Lib.hid (hit_came (HGC.out hri))
                have hj1 : IntKind.i64.wrap ((j : Int) + 1) = ((j + 1 : Nat) : Int) := by rw [IntKind.wrap_i64]; have := HMM.out; omega
                have hj2 : ((j + 1 : Nat) : Int) ≤ (cap : Int) := by omega
                have hj3 : (0 : Int) ≤ ((j + 1 : Nat) : Int) := by omega
                obtain ⟨J, hJ⟩ : ∃ z : Nat, j + 1 = z := ⟨_, rfl⟩
                have hjJ : (j : Int) + 1 = (J : Int) := by omega
                rw [hJ] at hj1 hj2 hj3
                have HJ := Lib.hid hJ
                clear hJ
                go_upto_region 24 with (fail)
                clear hri hj1 hj3 g0 g1 g2 g3 g4
                go_loopw [15, 137] (fun v i wq => ∃ (p : Nat), p ≤ J ∧ i = .int .i64 (p : Int) ∧ v = .bool (hitN l b8 c9 p) ∧ Fb wq gf 23 1 k b t u ∧ Fb wq gg 23 1 k8 b8 t8 u8 ∧ Pair wq gk 25 1000 c9 ∧ Below w.heap.size w wq) (fun _ i _ => J - (intOf i).toNat)
                case atStart => exact ⟨0, by omega, rfl, rfl, Hgf.out, Hgg.out, Hgk.out, HB.out⟩
                case round =>
                  clear Hgf Hgg Hgk HB Hgx
                  obtain ⟨p, hp, rfl, rfl, hgf, hgg, hgk, hB⟩ := hrel
                  have Hgf := Lib.hid hgf
                  have Hgg := Lib.hid hgg
                  have Hgk := Lib.hid hgk
                  have HB := Lib.hid hB
                  clear hgf hgg hgk hB
                  by_cases hpl : p < J
                  · have hpi : (p : Int) < (J : Int) := by omega
                    have hpc : (p : Int) < (cap : Int) := by omega
                    obtain ⟨bl2, off2, eab, hat⟩ := HL.out.at (k := p) (by have := HJ.out; omega)
                    injection eab with eab
                    injection eab with eab1 eab2
                    subst eab1 eab2
                    obtain ⟨x, hx⟩ : ∃ x, l.getD p Tl.zero = x := ⟨_, rfl⟩
                    rw [hx] at hat
                    have hst : hitN l b8 c9 (p + 1) = (hitN l b8 c9 p || ((x.a == b8) && (decide (0 ≤ x.o) && decide (x.o ≤ c9)))) := by rw [← hx]; rfl
                    obtain ⟨xa, xo, xc⟩ := x
                    obtain ⟨c0, c1, c2⟩ := hat wr HB.out
                    simp only at c0 c1 c2 hst
                    have HST := Lib.hid hst
                    clear hat hx hst
                    go_upto_region 26 with (fail)
                    clear c0 c1 c2
                    have hsz := HB.out.size
                    have hx := Tb3.new wr xa xo xc
                    have hbx := alloc_below wr (.cells #[.int .i64 xa, .int .i64 xo, .int .i64 xc] 76)
                    have Hgf := Lib.hid (Hgf.out.kept hbx)
                    have Hgg := Lib.hid (Hgg.out.kept hbx)
                    have Hgk := Lib.hid (Hgk.out.kept hbx)
                    have HB := Lib.hid (HB.out.trans (hbx.mono HB.out.size))
                    obtain ⟨gy, hg⟩ : ∃ q, wr.heap.size = q := ⟨_, rfl⟩
                    rw [hg] at hx hsz  ⊢
                    have Hgy := Lib.hid hx
                    clear hx hbx hg hsz 
                    generalize wr.alloc (.cells #[.int .i64 xa, .int .i64 xo, .int .i64 xc] 76) = W9 at *
                    obtain ⟨y0, y1, y2⟩ := Hgy.out.cs
                    obtain ⟨g0, g1, g2, g3, g4⟩ := Hgg.out.cs
                    have v0 := Hgk.out.c0
                    have v1 := Hgk.out.c1
                    obtain ⟨R, hR⟩ : ∃ z, hitN l b8 c9 p = z := ⟨_, rfl⟩
                    rw [hR] at HST ⊢
                    clear hR
                    cases R with
                    | true =>
                      go_quiet (fail)
                      clear y0 y1 y2 g0 g1 g2 g3 g4 v0 v1
                      (try go_wp2)
                      go_roundw
                      case rel => exact ⟨p + 1, by omega, by go_num, by rw [HST.out]; rfl, Hgf.out.kept (drewN_below (Below.refl _ W9) nq), Hgg.out.kept (drewN_below (Below.refl _ W9) nq), Hgk.out.kept (drewN_below (Below.refl _ W9) nq), drewN_below HB.out nq⟩
                      case measure => simp [intOf]; omega
                    | false =>
                      cases h1 : (xa == b8) with
                      | false =>
                        have HE := Lib.hid h1
                        go_quiet (fail)
                        clear y0 y1 y2 g0 g1 g2 g3 g4 v0 v1 h1
                        (try go_wp2)
                        go_roundw
                        case rel => exact ⟨p + 1, by omega, by go_num, by rw [HST.out, HE.out]; rfl, Hgf.out.kept (drewN_below (Below.refl _ W9) nq), Hgg.out.kept (drewN_below (Below.refl _ W9) nq), Hgk.out.kept (drewN_below (Below.refl _ W9) nq), drewN_below HB.out nq⟩
                        case measure => simp [intOf]; omega
                      | true =>
                        have HE := Lib.hid h1
                        by_cases h2 : 0 ≤ xo
                        · have hd2 : decide (0 ≤ xo) = true := decide_eq_true h2
                          have HD2 := Lib.hid hd2
                          by_cases h3 : xo ≤ c9
                          · have hd3 : decide (xo ≤ c9) = true := decide_eq_true h3
                            have HD3 := Lib.hid hd3
                            go_quiet (fail)
                            clear y0 y1 y2 g0 g1 g2 g3 g4 v0 v1 h1 h2 h3 hd2 hd3
                            (try go_wp2)
                            go_roundw
                            case rel => exact ⟨p + 1, by omega, by go_num, by rw [HST.out, HE.out, HD2.out, HD3.out]; rfl, Hgf.out.kept (drewN_below (Below.refl _ W9) nq), Hgg.out.kept (drewN_below (Below.refl _ W9) nq), Hgk.out.kept (drewN_below (Below.refl _ W9) nq), drewN_below HB.out nq⟩
                            case measure => simp [intOf]; omega
                          · have hd3 : decide (xo ≤ c9) = false := decide_eq_false h3
                            have HD3 := Lib.hid hd3
                            go_quiet (fail)
                            clear y0 y1 y2 g0 g1 g2 g3 g4 v0 v1 h1 h2 h3 hd2 hd3
                            (try go_wp2)
                            go_roundw
                            case rel => exact ⟨p + 1, by omega, by go_num, by rw [HST.out, HE.out, HD2.out, HD3.out]; rfl, Hgf.out.kept (drewN_below (Below.refl _ W9) nq), Hgg.out.kept (drewN_below (Below.refl _ W9) nq), Hgk.out.kept (drewN_below (Below.refl _ W9) nq), drewN_below HB.out nq⟩
                            case measure => simp [intOf]; omega
                        · have hd2 : decide (0 ≤ xo) = false := decide_eq_false h2
                          have HD2 := Lib.hid hd2
                          go_quiet (fail)
                          clear y0 y1 y2 g0 g1 g2 g3 g4 v0 v1 h1 h2 hd2
                          (try go_wp2)
                          go_roundw
                          case rel => exact ⟨p + 1, by omega, by go_num, by rw [HST.out, HE.out, HD2.out]; rfl, Hgf.out.kept (drewN_below (Below.refl _ W9) nq), Hgg.out.kept (drewN_below (Below.refl _ W9) nq), Hgk.out.kept (drewN_below (Below.refl _ W9) nq), drewN_below HB.out nq⟩
                          case measure => simp [intOf]; omega
                  · obtain rfl : p = J := by omega
                    have hh : hitN l b8 c9 p = true := by rw [← HJ.out]; exact HCM.out
                    rw [hh]
                    clear hh
                    go_upto_region 30 with (fail)
                    obtain ⟨g0, g1, g2, g3, g4⟩ := Hgg.out.cs
                    obtain ⟨d0, d1, d2, d3, d4⟩ := Hgf.out.cs
                    have z0 := Hgf.out.fz 0
                    have z1 := Hgf.out.fz 1
                    have z2 := Hgf.out.fz 2
                    have z3 := Hgf.out.fz 3
                    have z4 := Hgf.out.fz 4
                    (try go_wp2)
                    go_roundw
                    case rel => exact ⟨j + 1, k8, b8, t8, u8, most, c9, by omega, by go_num, rfl, HGJ.out, HC9.out.1, HC9.out.2.1, Hgf.out.fill 1 k8 b8 t8 u8, ((((Hgk.out.other _ _ HNE.out.symm).other _ _ HNE.out.symm).other _ _ HNE.out.symm).other _ _ HNE.out.symm).other _ _ HNE.out.symm, bel5 HB.out HGK.out.2 _ _ _ _ _⟩
                    case measure => simp [intOf]; omega
              · have h4 : ¬ b < b8 := hri
                clear HGC
                clear h4
                go_upto_region 30 with (fail)
                obtain ⟨g0, g1, g2, g3, g4⟩ := Hgg.out.cs
                obtain ⟨d0, d1, d2, d3, d4⟩ := Hgf.out.cs
                have z0 := Hgf.out.fz 0
                have z1 := Hgf.out.fz 1
                have z2 := Hgf.out.fz 2
                have z3 := Hgf.out.fz 3
                have z4 := Hgf.out.fz 4
                (try go_wp2)
                go_roundw
                case rel => exact ⟨j + 1, k8, b8, t8, u8, most, c9, by omega, by go_num, rfl, HGJ.out, HC9.out.1, HC9.out.2.1, Hgf.out.fill 1 k8 b8 t8 u8, ((((Hgk.out.other _ _ HNE.out.symm).other _ _ HNE.out.symm).other _ _ HNE.out.symm).other _ _ HNE.out.symm).other _ _ HNE.out.symm, bel5 HB.out HGK.out.2 _ _ _ _ _⟩
                case measure => simp [intOf]; omega
      · obtain rfl : j = m := by omega
        go_wp2_with (go_at_call 19; (with_reducible refine (HLV.out _).mono ?_); rintro e20 w20 ⟨rfl, hb20⟩)
        go_ret
        exact ⟨rfl, HB.out.trans (hb20.mono HB.out.size)⟩
  · clear HM1
    go_wp2_with (go_at_call 19; (with_reducible refine (HLV.out _).mono ?_); rintro e20 w20 ⟨rfl, hb20⟩)
    go_ret
    exact ⟨rfl, HB.out.trans (hb20.mono HB.out.size)⟩
end Go.Proofs.Ytdjhiaogpgaboaa
end

