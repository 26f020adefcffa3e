/-
  Merged: EC YS MN EE MF MM U9 MW YD MX MY MZ E1 E2 E3 E5 DJ ED.
-/
import Derived.Deep.QuietTactic
import Derived.StillTail
import Derived.Lib.QuietBelow
import Derived.Test.YteffbibmfpdenaaRows
import Derived.WalkKit
import Derived.Lib.Hide
import Derived.BigQuiet
import Derived.BigRegion
import Derived.Deep.Cut
import Derived.Deep.MidRow
import Derived.Great.BuildSlice
import Derived.Outline
import Derived.OwnWalk
import Derived.Laws.Rows
import Derived.ChangeKeysEq
import Derived.Laws.StructEq
import Derived.WalkSpells
import Derived.WalkLawsBesides
import Derived.Laws.CopyOwn
import Derived.WalkSmall
import Derived.Lib.LaidTab
import Derived.Deep.RegionWith
import Derived.Lib.MinMax
import Derived.WideShapes
import Derived.ChangeSame
import Derived.OpenShut
import Derived.Deep.Slices
import Derived.Deep.AppendSrc
import Derived.Lib.AppendZerosOnto
import Derived.Lib.SliceRun
import Derived.Lib.Walk
import Derived.Lib.OthersKept
import Derived.Laws.RangeAny
import Derived.Maps.OwnOps
import Derived.Maps.Views
import Derived.ChangeSlices
import Derived.ChangeArms
import Derived.Deep.DeepAppendWide
import Derived.OrdersIn
import Derived.TacticsIn
import Derived.RangeFuncNested
import Derived.RangeFuncBound
import Derived.RangeFuncCalls
import Derived.RangeFuncLeaves
import Derived.Maps.AppendAt
import Derived.Shelf.Abstract
import Derived.OwnWalkIn
import Derived.TacticsInMore
import Derived.LoopNIn
import Derived.LoopIn
import Derived.Test.YteffbibmfpdenaaSS2

section
namespace Go.Proofs.Yteffbibmfpdenaa
open Go.RowKit Go Go.Sort
set_option linter.unusedVariables false
set_option maxRecDepth 20000

theorem cells_put_below {w W : World} {B g k : Nat} (hb : Below B w W) (hg : B ≤ g) (n9 s9 a9 b9 : Int) (g9 : Bool) (t9 : List UInt8) (d9 e9 : Int) : Below B w (((((((((W.setCell ⟨g, k * 8, none⟩ (.int .i64 n9)).setCell ⟨g, k * 8 + 1, none⟩ (.int .i64 s9)).setCell ⟨g, k * 8 + 2, none⟩ (.int .i64 a9)).setCell ⟨g, k * 8 + 3, none⟩ (.int .i64 b9)).setCell ⟨g, k * 8 + 4, none⟩ (.bool g9)).setCell ⟨g, k * 8 + 5, none⟩ (.string (text t9))).setCell ⟨g, k * 8 + 6, none⟩ (.int .i64 d9)).setCell ⟨g, k * 8 + 7, none⟩ (.int .i64 e9))) :=
  (((((((hb.setCell (p := ⟨g, k * 8, none⟩) hg _).setCell (p := ⟨g, k * 8 + 1, none⟩) hg _).setCell (p := ⟨g, k * 8 + 2, none⟩) hg _).setCell (p := ⟨g, k * 8 + 3, none⟩) hg _).setCell (p := ⟨g, k * 8 + 4, none⟩) hg _).setCell (p := ⟨g, k * 8 + 5, none⟩) hg _).setCell (p := ⟨g, k * 8 + 6, none⟩) hg _).setCell (p := ⟨g, k * 8 + 7, none⟩) hg _
theorem take_cell {cur : Array Value} {cs : List Cl} (ht : cur.toList.take (cs.length * 8) = cCells cs) {j : Nat} (hj : j < cs.length * 8) : cur[j]? = (cCells cs)[j]? := by
  rw [← ht, List.getElem?_take, if_pos hj]
  simp
/-- A cell put into a row of the call's own. -/
theorem own_put {W : World} {B g m c k : Nat} {cs : List Cl} (h : OwnC W B (.slice (some ⟨g, 0, none⟩) m c) cs) (hk : k < cs.length) (n9 s9 a9 b9 : Int) (g9 : Bool) (t9 : List UInt8) (d9 e9 : Int) :
    OwnC (((((((((W.setCell ⟨g, k * 8, none⟩ (.int .i64 n9)).setCell ⟨g, k * 8 + 1, none⟩ (.int .i64 s9)).setCell ⟨g, k * 8 + 2, none⟩ (.int .i64 a9)).setCell ⟨g, k * 8 + 3, none⟩ (.int .i64 b9)).setCell ⟨g, k * 8 + 4, none⟩ (.bool g9)).setCell ⟨g, k * 8 + 5, none⟩ (.string (text t9))).setCell ⟨g, k * 8 + 6, none⟩ (.int .i64 d9)).setCell ⟨g, k * 8 + 7, none⟩ (.int .i64 e9))) B (.slice (some ⟨g, 0, none⟩) m c) (cs.set k ⟨n9, s9, a9, b9, g9, t9, d9, e9⟩) := by
  obtain ⟨hlen, ⟨ev, -⟩ | ⟨g', cap, cur, ev, hB, hg, hnc, hcm, hcs, htake⟩⟩ := h
  · cases ev
  · injection ev with e1 e2 e3
    injection e1 with e1
    injection e1 with e1
    subst e1 e2 e3
    have h0 := heap_setCell_same W g (k * 8) _ _ (.int .i64 n9) hg
    have h1 := heap_setCell_same _ g (k * 8 + 1) _ _ (.int .i64 s9) h0
    have h2 := heap_setCell_same _ g (k * 8 + 2) _ _ (.int .i64 a9) h1
    have h3 := heap_setCell_same _ g (k * 8 + 3) _ _ (.int .i64 b9) h2
    have h4 := heap_setCell_same _ g (k * 8 + 4) _ _ (.bool g9) h3
    have h5 := heap_setCell_same _ g (k * 8 + 5) _ _ (.string (text t9)) h4
    have h6 := heap_setCell_same _ g (k * 8 + 6) _ _ (.int .i64 d9) h5
    have h7 := heap_setCell_same _ g (k * 8 + 7) _ _ (.int .i64 e9) h6
    have hl2 : (cs.set k (⟨n9, s9, a9, b9, g9, t9, d9, e9⟩ : Cl)).length = cs.length := List.length_set
    refine ⟨by rw [cCells_length], .inr ⟨g, c, _, by rw [hl2], hB, h7, by rw [hl2]; exact hnc, hcm, by simpa using hcs, ?_⟩⟩
    rw [hl2]
    apply List.ext_getElem?
    intro j
    have hcl := cCells_length cs
    have hcl2 := cCells_length (cs.set k ⟨n9, s9, a9, b9, g9, t9, d9, e9⟩)
    rw [hl2] at hcl2
    rw [List.getElem?_take]
    by_cases hj : j < cs.length * 8
    · rw [if_pos hj]
      have hc := take_cell htake hj
      have hsz : cs.length * 8 ≤ cur.size := by
        have h9 := congrArg List.length htake
        rw [List.length_take, hcl] at h9
        simp at h9
        omega
      simp only [Array.getElem?_toList, Array.getElem?_setIfInBounds, Array.size_setIfInBounds]
      have hd : j / 8 < cs.length := by omega
      have hm : j % 8 < 8 := Nat.mod_lt _ (by omega)
      have e8 : j / 8 * 8 + j % 8 = j := by omega
      have g1 := cCells_get cs (j / 8) (j % 8) hd hm
      have g2 := cCells_get (cs.set k ⟨n9, s9, a9, b9, g9, t9, d9, e9⟩) (j / 8) (j % 8) (by rw [hl2]; exact hd) hm
      rw [e8] at g1 g2
      rw [g2, hc, g1]
      obtain ⟨r, hr⟩ : ∃ r, j % 8 = r := ⟨_, rfl⟩
      rw [hr] at hm e8 ⊢
      by_cases hq : j / 8 = k
      · rw [hq] at e8 ⊢
        have e9 : (cs.set k (⟨n9, s9, a9, b9, g9, t9, d9, e9⟩ : Cl)).getD k Cl.zero = ⟨n9, s9, a9, b9, g9, t9, d9, e9⟩ := by simp [hk]
        rw [e9]
        subst e8
        have hk8 : k * 8 + 7 < cs.length * 8 := by omega
        rcases (by omega : r = 0 ∨ r = 1 ∨ r = 2 ∨ r = 3 ∨ r = 4 ∨ r = 5 ∨ r = 6 ∨ r = 7) with rfl | rfl | rfl | rfl | rfl | rfl | rfl | rfl
        all_goals
          repeat rw [if_neg (by omega)]
          rw [if_pos (by omega), if_pos (by omega)]
          rfl
      · have e9 : (cs.set k (⟨n9, s9, a9, b9, g9, t9, d9, e9⟩ : Cl)).getD (j / 8) Cl.zero = cs.getD (j / 8) Cl.zero := by
          simp only [List.getD_eq_getElem?_getD, List.getElem?_set]
          rw [if_neg (fun e => hq e.symm)]
        rw [e9]
        repeat rw [if_neg (by omega)]
    · rw [if_neg hj, List.getElem?_eq_none (by omega)]
/-- What a row of the call's own holds at a place. -/
theorem own_at {W : World} {B m c g : Nat} {cs : List Cl} (h : OwnC W B (.slice (some ⟨g, 0, none⟩) m c) cs) {k : Nat} (hk : k < cs.length) : ∀ W', Below W.heap.size W W' → W'.cell? ⟨g, k * 8, none⟩ = some (.int .i64 (cs.getD k Cl.zero).n) ∧ W'.cell? ⟨g, k * 8 + 1, none⟩ = some (.int .i64 (cs.getD k Cl.zero).s) ∧ W'.cell? ⟨g, k * 8 + 2, none⟩ = some (.int .i64 (cs.getD k Cl.zero).a) ∧ W'.cell? ⟨g, k * 8 + 3, none⟩ = some (.int .i64 (cs.getD k Cl.zero).b) ∧
    W'.cell? ⟨g, k * 8 + 4, none⟩ = some (.bool (cs.getD k Cl.zero).g) ∧ W'.cell? ⟨g, k * 8 + 5, none⟩ = some (.string (text (cs.getD k Cl.zero).t)) ∧ W'.cell? ⟨g, k * 8 + 6, none⟩ = some (.int .i64 (cs.getD k Cl.zero).d) ∧ W'.cell? ⟨g, k * 8 + 7, none⟩ = some (.int .i64 (cs.getD k Cl.zero).e) := by
  obtain ⟨a, cap, ev, hc⟩ := h.cls
  injection ev with e1 e2 e3
  subst e1 e2 e3
  intro W' hb
  obtain ⟨b, off, e, hat⟩ := hc.at hk
  injection e with e
  injection e with e4 e5
  subst e4 e5
  have := hat W' hb
  rw [Nat.zero_add] at this
  exact this
/-- The block of a row of the call's own is not frozen. -/
theorem own_fz {W : World} {B m c g : Nat} {cs : List Cl} (h : OwnC W B (.slice (some ⟨g, 0, none⟩) m c) cs) (i : Nat) : W.frozen? ⟨g, i, none⟩ = false := by
  obtain ⟨hlen, ⟨ev, -⟩ | ⟨g', cap, cur, ev, hB, hg, hnc, hcm, hcs, htake⟩⟩ := h
  · cases ev
  · injection ev with e1 e2 e3
    injection e1 with e1
    injection e1 with e1
    subst e1
    exact frozen_of_row _ g i _ _ hg
theorem own_some {W : World} {B : Nat} {v : Value} {cs : List Cl} (h : OwnC W B v cs) (hp : 0 < cs.length) : ∃ g c, v = .slice (some ⟨g, 0, none⟩) cs.length c ∧ B ≤ g ∧ cs.length ≤ c ∧ g < W.heap.size := by
  obtain ⟨hlen, ⟨ev, hn⟩ | ⟨g', cap, cur, ev, hB, hg, hnc, hcm, hcs, htake⟩⟩ := h
  · omega
  · exact ⟨g', cap, ev, hB, hnc, (Array.getElem?_eq_some_iff.1 hg).1⟩
/-- A row of the call's own, whose block nobody else turned. -/
theorem OwnC.of_block {w w' : World} {B : Nat} {v : Value} {l : List Cl} (h : OwnC w B v l) (hb : ∀ q, v.ownBlock = some q → w'.heap[q]? = w.heap[q]?) : OwnC w' B v l := by
  obtain ⟨hlen, ⟨ev, hn⟩ | ⟨g, cap, cur, ev, hB, hg, hnc, hcm, hcs, htake⟩⟩ := h
  · exact ⟨hlen, .inl ⟨ev, hn⟩⟩
  · exact ⟨hlen, .inr ⟨g, cap, cur, ev, hB, (hb g (by subst ev; rfl)).trans hg, hnc, hcm, hcs, htake⟩⟩
/-- A world that differs in one value's own block alone. -/
structure OnlyV (v : Value) (W W' : World) : Prop where
  os : W'.os = W.os
  tape : W'.tape = W.tape
  output : W'.output = W.output
  size : W'.heap.size = W.heap.size
  rest : ∀ q, some q ≠ v.ownBlock → W'.heap[q]? = W.heap[q]?
theorem OnlyV.refl (v : Value) (W : World) : OnlyV v W W := ⟨rfl, rfl, rfl, rfl, fun _ _ => rfl⟩
theorem OnlyV.cell {g m c : Nat} {W W' : World} (h : OnlyV (.slice (some ⟨g, 0, none⟩) m c) W W') (i : Nat) (u : Value) : OnlyV (.slice (some ⟨g, 0, none⟩) m c) W (W'.setCell ⟨g, i, none⟩ u) := by
  have hb := (Below.refl 0 W').setCell (p := ⟨g, i, none⟩) (Nat.zero_le _) u
  refine ⟨hb.os.trans h.os, hb.tape.trans h.tape, hb.output.trans h.output, (World.size_setCell _ _ _).trans h.size, fun q hq => (Below.heap_setCell W' ⟨g, i, none⟩ u q (fun e => hq (by subst e; rfl))).trans (h.rest q hq)⟩
theorem OnlyV.below {v : Value} {W W' : World} (h : OnlyV v W W') {B : Nat} (hB : ∀ q, v.ownBlock = some q → B ≤ q) : Below B W W' :=
  ⟨h.os, h.tape, h.output, Nat.le_of_eq h.size.symm, fun k hk => h.rest k (fun e => by have := hB k e.symm; omega)⟩
theorem OnlyV.own {v u : Value} {W W' : World} (h : OnlyV v W W') {B : Nat} {l : List Cl} (ho : OwnC W B u l) (hne : ∀ q, u.ownBlock = some q → some q ≠ v.ownBlock) : OwnC W' B u l := ho.of_block fun q hq => h.rest q (hne q hq)
theorem OnlyV.at {v : Value} {W W' : World} (h : OnlyV v W W') {q : Nat} {o : Obj} (ho : W.heap[q]? = some o) (hne : some q ≠ v.ownBlock) : W'.heap[q]? = some o := (h.rest q hne).trans ho
/-- A row, with its slice of cells as it stands in memory. -/
structure Rw where
  k : List UInt8
  u : Value
  cs : List Cl
def Rw.zero : Rw := ⟨[], .slice none 0 0, []⟩
def Rw.arr (r : Rw) : Array Value := #[.string (text r.k), r.u]
def Rw.pr (r : Rw) : List UInt8 × List Cl := (r.k, r.cs)
theorem rw_size (r : Rw) : r.arr.size = 2 := rfl
/-- Rows of the call's own, each with cells of its own, and no two with the same. -/
structure OwnRw (W : World) (B n1 : Nat) (v : Value) (L : List Rw) : Prop where
  row : OwnL 2 30 Rw.arr W B v L
  own : ∀ j, j < L.length → OwnC W B (L.getD j Rw.zero).u (L.getD j Rw.zero).cs ∧ (L.getD j Rw.zero).cs.length = n1
  apart : ∀ i j, i < j → j < L.length → (L.getD i Rw.zero).u.ownBlock ≠ (L.getD j Rw.zero).u.ownBlock
theorem OwnRw.nil (W : World) (B n1 : Nat) : OwnRw W B n1 (.slice none 0 0) [] := ⟨OwnL.nil _ _ _, fun j hj => by simp at hj, fun i j _ hj => by simp at hj⟩
theorem OwnRw.kept {W W' : World} {B n1 : Nat} {v : Value} {L : List Rw} (h : OwnRw W B n1 v L) (hb : Below W.heap.size W W') : OwnRw W' B n1 v L := ⟨h.row.kept hb, fun j hj => ⟨(h.own j hj).1.kept hb, (h.own j hj).2⟩, h.apart⟩
theorem own_block {W : World} {B : Nat} {u : Value} {cs : List Cl} (h : OwnC W B u cs) {q : Nat} (hq : u.ownBlock = some q) : ∃ cur fr, W.heap[q]? = some (.cells cur 79 fr) := by
  obtain ⟨hlen, ⟨ev, hn⟩ | ⟨g, cap, cur, ev, hB, hg, hnc, hcm, hcs, htake⟩⟩ := h
  · subst ev; cases hq
  · subst ev
    obtain rfl : q = g := by
      have : some g = some q := hq
      injection this with e; exact e.symm
    exact ⟨_, _, hg⟩
theorem own_kinds {W : World} {B B' : Nat} {u v : Value} {cs : List Cl} {L : List Rw} (h : OwnC W B u cs) (hr : OwnL 2 30 Rw.arr W B' v L) {q : Nat} (hq : u.ownBlock = some q) : some q ≠ v.ownBlock := by
  obtain ⟨cur, fr, hc⟩ := own_block h hq
  exact own_ne hc (by decide) hr
/-- Cells of the call's own while rows grow. -/
theorem OwnC.turn {W W' : World} {B B' : Nat} {u v : Value} {cs : List Cl} {L : List Rw} (h : OwnC W B u cs) (hr : OwnL 2 30 Rw.arr W B' v L) (o : Obj) (hg : (W.alloc o).grownBy W' v.ownBlock) : OwnC W' B u cs :=
  h.of_block fun q hq => (hg.block q (by have := (h.lt q hq).2; simp; omega) (fun e => own_kinds h hr hq e)).trans (Below.heap_alloc W o q (h.lt q hq).2)
theorem getD_push {L : List Rw} {r : Rw} {j : Nat} : (L ++ [r]).getD j Rw.zero = if j < L.length then L.getD j Rw.zero else if j = L.length then r else Rw.zero := by
  rw [List.getD_eq_getElem?_getD, List.getD_eq_getElem?_getD]
  by_cases h : j < L.length
  · rw [if_pos h, List.getElem?_append_left h]
  · rw [if_neg h, List.getElem?_append_right (by omega)]
    by_cases e : j = L.length
    · subst e; simp
    · rw [if_neg e, List.getElem?_eq_none (by simp; omega)]; rfl
/-- One more row, whose cells are younger than all. -/
theorem OwnRw.push {W W' : World} {B B2 n1 : Nat} {v v' u : Value} {L : List Rw} {k : List UInt8} {cs : List Cl} (h : OwnRw W B n1 v L) (hn : cs.length = n1) (hc : OwnC W B2 u cs) (h1 : 0 < n1) (hB : B ≤ B2) (hlt : ∀ j, j < L.length → ∀ q, (L.getD j Rw.zero).u.ownBlock = some q → q < B2) (o : Obj)
    (hr : OwnL 2 30 Rw.arr W' B v' (L ++ [⟨k, u, cs⟩])) (hg : (W.alloc o).grownBy W' v.ownBlock) : OwnRw W' B n1 v' (L ++ [⟨k, u, cs⟩]) := by
  refine ⟨hr, fun j hj => ?_, fun i j hij hj => ?_⟩
  · rw [getD_push]
    by_cases e : j < L.length
    · rw [if_pos e]; exact ⟨(h.own j e).1.turn h.row o hg, (h.own j e).2⟩
    · rw [if_neg e, if_pos (by simp at hj; omega)]
      exact ⟨(hc.turn h.row o hg).mono hB, hn⟩
  · rw [getD_push, getD_push]
    have hi : i < L.length := by simp at hj; omega
    rw [if_pos hi]
    by_cases e : j < L.length
    · rw [if_pos e]; exact h.apart i j hij e
    · rw [if_neg e, if_pos (by simp at hj; omega)]
      obtain ⟨g, c, ev, hge, -,-⟩ := own_some hc (by omega)
      intro e2
      have e3 : u.ownBlock = some g := by rw [ev]; rfl
      have e4 : (L.getD i Rw.zero).u.ownBlock = some g := e2.trans e3
      have := hlt i hi g e4
      omega
theorem lCells_map {L M : List Rw} (h : L.map Rw.arr = M.map Rw.arr) : lCells Rw.arr L = lCells Rw.arr M := by
  unfold lCells
  have e : ∀ N : List Rw, N.flatMap (fun c => (Rw.arr c).toList) = (N.map Rw.arr).flatMap Array.toList := fun N => by rw [List.flatMap_map]
  rw [e, e, h]
theorem getD_set {L : List Rw} {r : Rw} {i j : Nat} (hj : j < L.length) : (L.set i r).getD j Rw.zero = if i = j then r else L.getD j Rw.zero := by
  rw [List.getD_eq_getElem?_getD, List.getD_eq_getElem?_getD, List.getElem?_set]
  by_cases e : i = j
  · subst e; rw [if_pos rfl, if_pos rfl, if_pos hj]; rfl
  · rw [if_neg e, if_neg e]
/-- Other cells in one row. -/
theorem OwnRw.store {W W' : World} {B n1 : Nat} {v : Value} {L : List Rw} {j : Nat} {cs' : List Cl} (h : OwnRw W B n1 v L) (hj : j < L.length) (ho : OnlyV (L.getD j Rw.zero).u W W') (hc : OwnC W' B (L.getD j Rw.zero).u cs') (hn : cs'.length = n1) (h1 : 0 < n1) : OwnRw W' B n1 v (L.set j ⟨(L.getD j Rw.zero).k, (L.getD j Rw.zero).u, cs'⟩) := by
  obtain ⟨g, c, eu, -,-,-⟩ := own_some (h.own j hj).1 (by have := (h.own j hj).2; omega)
  have eg : (L.getD j Rw.zero).u.ownBlock = some g := by rw [eu]; rfl
  have hmap : (L.set j ⟨(L.getD j Rw.zero).k, (L.getD j Rw.zero).u, cs'⟩).map Rw.arr = L.map Rw.arr := by
    rw [List.map_set]
    apply List.ext_getElem (by simp)
    intro i h2 h3
    rw [List.getElem_set]
    split
    · rename_i e; subst e
      rw [List.getElem_map]
      show Rw.arr _ = _
      rw [List.getD_eq_getElem?_getD, List.getElem?_eq_getElem hj]; rfl
    · rfl
  refine ⟨?_, fun i hi => ?_, fun i k hik hk => ?_⟩
  · have h2 : OwnL 2 30 Rw.arr W' B v L := h.row.of_block fun q hq => ho.rest q (by
      rw [eg]; intro e
      have e : q = g := by injection e
      subst e
      exact own_kinds (h.own j hj).1 h.row eg hq.symm)
    unfold OwnL at h2 ⊢
    rw [List.length_set, lCells_map hmap]
    exact h2
  · rw [List.length_set] at hi
    rw [getD_set hi]
    by_cases e : j = i
    · subst e; rw [if_pos rfl]; exact ⟨hc, hn⟩
    · rw [if_neg e]
      refine ⟨ho.own (h.own i hi).1 fun q hq e2 => ?_, (h.own i hi).2⟩
      rcases Nat.lt_or_gt_of_ne e with h2 | h2
      · exact h.apart j i h2 hi (e2.symm.trans hq.symm)
      · exact h.apart i j h2 hj (hq.trans e2)
  · rw [List.length_set] at hk
    rw [getD_set hk, getD_set (by omega)]
    have e1 : (if j = i then (⟨(L.getD j Rw.zero).k, (L.getD j Rw.zero).u, cs'⟩ : Rw) else L.getD i Rw.zero).u = (L.getD i Rw.zero).u := by
      split
      · rename_i e; subst e; rfl
      · rfl
    have e2 : (if j = k then (⟨(L.getD j Rw.zero).k, (L.getD j Rw.zero).u, cs'⟩ : Rw) else L.getD k Rw.zero).u = (L.getD k Rw.zero).u := by
      split
      · rename_i e; subst e; rfl
      · rfl
    rw [e1, e2]
    exact h.apart i k hik hk
theorem Try.infoRw : (Try.prog.info? 30).map (fun i => (i.zero, i.size, i.bytes)) = some (some (.agg #[.string ⟨#[]⟩, .slice none 0 0]), 2, 40) := by kernel_rfl
/-- append of one row. -/
theorem wpList_append_rw {w : World} {ops : Array Oper} {rest : List Oper} {o : Oper} {ac : Act} {Q : Exit → Act → World → Prop} (hgd : o.guard = none) (os ox : Operand)
    (ho : o.op = .call { callee := .builtin .append, args := #[os, ox], argTypes := #[27, 27] })
    {base : Nat} {u : Value} {l : List Rw} (hs : ac.eval os = u) (hown : OwnL 2 30 Rw.arr w base u l) (k : List UInt8) (a9 : Option Addr) (n9 c9 : Nat) (cs : List Cl) {e9 : TypeId}
    (hx : ac.eval ox = .slice (some ⟨w.heap.size, 0, none⟩) 1 1) (h63 : l.length ≤ 1000000000) (hbase : base ≤ w.heap.size)
    (h : ∀ v' w', OwnL 2 30 Rw.arr w' base v' (l ++ [⟨k, .slice a9 n9 c9, cs⟩]) → (w.alloc (.cells #[.string (text k), .slice a9 n9 c9] e9)).grownBy w' u.ownBlock → wpList Try.prog ops Q rest (ac.put o.dst v') w') :
    wpList Try.prog ops Q (o :: rest) ac (w.alloc (.cells #[.string (text k), .slice a9 n9 c9] e9)) := by
  obtain ⟨i0, hi, hz0, hz1, hz2⟩ := info_parts Try.infoRw
  refine wpList_append_el hgd os ox 27 30 i0 _ 40 ho Try.underlying27 hi hz0 hz1 hz2 rfl (by decide) hs hown ⟨k, .slice a9 n9 c9, cs⟩ rfl rfl ?_ hx (by unfold maxLen; omega) (by omega) hbase h
  intro u hu
  have hu : u ∈ [Value.string (text k), .slice a9 n9 c9] := hu
  simp only [List.mem_cons, List.not_mem_nil, or_false] at hu
  rcases hu with rfl | rfl <;> rfl
end Go.Proofs.Yteffbibmfpdenaa
end

section
namespace Go.Proofs.Yteffbibmfpdenaa
open Go.RowKit Go Go.Sort
set_option linter.unusedVariables false
set_option maxRecDepth 20000

set_option maxHeartbeats 6400000 in
theorem rsame_c (n s a b : Int) (g : Bool) (t : List UInt8) (d e : Int) (n' s' a' b' : Int) (g' : Bool) (t' : List UInt8) (d' e' : Int) (w : World) : Calls Try.prog 56 #[.agg #[.int .i64 n, .int .i64 s, .int .i64 a, .int .i64 b, .bool g, .string (text t), .int .i64 d, .int .i64 e], .agg #[.int .i64 n', .int .i64 s', .int .i64 a', .int .i64 b', .bool g', .string (text t'), .int .i64 d', .int .i64 e']] w (Tells (.bool (sameC ⟨n, s, a, b, g, t, d, e⟩ ⟨n', s', a', b', g', t', d', e'⟩)) w) := by
  have hp := (Cel.new w n s a b g t d e).alloc (.cells #[.int .i64 n', .int .i64 s', .int .i64 a', .int .i64 b', .bool g', .string (text t'), .int .i64 d', .int .i64 e'] 79)
  have hq := Cel.new (w.alloc (.cells #[.int .i64 n, .int .i64 s, .int .i64 a, .int .i64 b, .bool g, .string (text t), .int .i64 d, .int .i64 e] 79)) n' s' a' b' g' t' d' e'
  rw [World.size_alloc] at hq
  have HB := Lib.hid ((alloc_below w (.cells #[.int .i64 n, .int .i64 s, .int .i64 a, .int .i64 b, .bool g, .string (text t), .int .i64 d, .int .i64 e] 79)).alloc (by simp) (.cells #[.int .i64 n', .int .i64 s', .int .i64 a', .int .i64 b', .bool g', .string (text t'), .int .i64 d', .int .i64 e'] 79))
  have HV := Lib.hid (show sameC ⟨n, s, a, b, g, t, d, e⟩ ⟨n', s', a', b', g', t', d', e'⟩ = (((n == n') && (s == s')) && (((a == a') && (b == b')) && ((g == g') && (decide (t = t') && ((d == d') && (e == e')))))) from rfl)
  obtain ⟨r, hr⟩ : ∃ r, sameC ⟨n, s, a, b, g, t, d, e⟩ ⟨n', s', a', b', g', t', d', e'⟩ = r := ⟨_, rfl⟩
  rw [hr] at HV ⊢
  have hng := stamp_eqg
  have hvg := vec_eqg
  have hte : ((text t).toList == (text t').toList) = decide (t = t') := by rw [text_eqb, Bool.eq_iff_iff]; simp
  obtain ⟨c0, c1, c2, c3, c4, c5, c6, c7⟩ := hp.cs
  obtain ⟨k0, k1, k2, k3, k4, k5, k6, k7⟩ := hq.cs
  obtain ⟨u, hu⟩ : ∃ u, text t = u := ⟨_, rfl⟩
  obtain ⟨v, hv⟩ : ∃ u, text t' = u := ⟨_, rfl⟩
  rw [hu, hv] at c0 c1 c2 c3 c4 c5 c6 c7 k0 k1 k2 k3 k4 k5 k6 k7 hte HB
  rw [hu, hv]
  obtain ⟨q1, h1⟩ : ∃ q, ((n == n') && (s == s')) = q := ⟨_, rfl⟩
  obtain ⟨q2, h2⟩ : ∃ q, ((a == a') && (b == b')) = q := ⟨_, rfl⟩
  obtain ⟨q3, h3⟩ : ∃ q, (g == g') = q := ⟨_, rfl⟩
  obtain ⟨q4, h4⟩ : ∃ q, decide (t = t') = q := ⟨_, rfl⟩
  obtain ⟨q5, h5⟩ : ∃ q, ((d == d') && (e == e')) = q := ⟨_, rfl⟩
  have e1 := stamp_eqb n s n' s' _ h1
  have e2 := vec_eqb a b a' b' _ h2
  have e5 := vec_eqb d e d' e' _ h5
  rw [h1, h2, h3, h4, h5] at HV
  rw [h4] at hte
  clear hp hq hr hu hv h1 h2 h4 h5
  cases q1 with
  | false =>
    go_enter Try.func56, Try.ntmps56
    go_wp2
    go_ret
    exact ⟨by rw [HV.out]; rfl, HB.out⟩
  | true =>
  cases q2 with
  | false =>
    go_enter Try.func56, Try.ntmps56
    go_wp2
    go_ret
    exact ⟨by rw [HV.out]; rfl, HB.out⟩
  | true =>
  cases q3 with
  | false =>
    go_enter Try.func56, Try.ntmps56
    go_wp2
    go_ret
    exact ⟨by rw [HV.out]; rfl, HB.out⟩
  | true =>
  cases q4 with
  | false =>
    go_enter Try.func56, Try.ntmps56
    go_wp2
    go_ret
    exact ⟨by rw [HV.out]; rfl, HB.out⟩
  | true =>
    go_enter Try.func56, Try.ntmps56
    go_wp2
    go_ret
    exact ⟨by rw [HV.out]; cases q5 <;> rfl, HB.out⟩
end Go.Proofs.Yteffbibmfpdenaa
end

section
namespace Go.Proofs.Yteffbibmfpdenaa
open Go.RowKit Go Go.Sort
set_option linter.unusedVariables false
set_option maxRecDepth 20000

theorem sameC_self (c : Cl) : sameC c c = true := by
  obtain ⟨n, s, a, b, g, t, d, e⟩ := c
  exact cellEq_self ..

set_option maxRecDepth 100000 in
set_option maxHeartbeats 3200000 in
theorem rrowsame_c {w : World} {x x2 : Option Addr} {m cap cap2 : Nat} {cs : List Cl} (hl : Cls w x m cap cs) (hl2 : Cls w x2 m cap2 cs) (key : ByteArray) :
    Calls Try.prog 25 #[.agg #[.string key, .slice x m cap], .agg #[.string key, .slice x2 m cap2]] w (Tells (.bool true) w) := by
  have hll := hl.len
  have hle := hl.le
  have hmax := hl.max
  have hle2 := hl2.le
  have hmax2 := hl2.max
  have HL := Lib.hid hl
  have HL2 := Lib.hid hl2
  have hkk : (key.toList == key.toList) = true := by simp
  have hb := (alloc_below w (.cells #[.string key, .slice x m cap] 30)).alloc (by simp) (.cells #[.string key, .slice x2 m cap2] 30)
  have hr : ((w.alloc (.cells #[.string key, .slice x m cap] 30)).alloc (.cells #[.string key, .slice x2 m cap2] 30)).heap[w.heap.size]? = some (.cells #[.string key, .slice x m cap] 30 (0, 0)) := (Below.heap_alloc _ _ _ (by simp)).trans (heap_alloc_new w _)
  have hr2 := heap_alloc_new (w.alloc (.cells #[.string key, .slice x m cap] 30)) (.cells #[.string key, .slice x2 m cap2] 30)
  rw [World.size_alloc] at hr2
  clear hl hl2
  go_enter Try.func25, Try.ntmps25
  go_upto_region 1 with (fail)
  obtain ⟨B, hB⟩ : ∃ q, w.heap.size = q := ⟨_, rfl⟩
  have HBe := Lib.hid hB
  rw [hB] at hr hr2 ⊢
  clear hB
  generalize (w.alloc (.cells #[.string key, .slice x m cap] 30)).alloc (.cells #[.string key, .slice x2 m cap2] 30) = W1 at *
  have HR1 := Lib.hid hr
  have HR2 := Lib.hid hr2
  have HB1 := Lib.hid hb
  obtain ⟨r0, r1, -⟩ := row_cells hr
  obtain ⟨s0, s1, -⟩ := row_cells hr2
  clear hr hr2 hb
  go_wp2
  clear r0 r1 s0 s1
  go_loopw [5] (fun i wr => ∃ k : Nat, k ≤ m ∧ i = .int .i64 k ∧ Below w.heap.size w wr ∧ wr.heap[B]? = some (.cells #[.string key, .slice x m cap] 30 (0, 0)) ∧ wr.heap[B + 1]? = some (.cells #[.string key, .slice x2 m cap2] 30 (0, 0))) (fun i _ => m - (intOf i).toNat)
  case atStart => exact ⟨0, by omega, rfl, HB1.out, HR1.out, HR2.out⟩
  case round =>
    clear HB1 HR1 HR2
    obtain ⟨i, hk, rfl, hB, hr, hr2⟩ := hrel
    obtain ⟨-, r1, -⟩ := row_cells hr
    have HB := Lib.hid hB
    have HR := Lib.hid hr
    have HR2 := Lib.hid hr2
    by_cases hlt : i < m
    · have hki : (i : Int) < (m : Int) := by omega
      have hki1 : (i : Int) < (cap : Int) := by omega
      have hki2 : (i : Int) < (cap2 : Int) := by omega
      obtain ⟨bk, off, rfl, hat⟩ := HL.out.at hlt
      obtain ⟨bk2, off2, rfl, hat2⟩ := HL2.out.at hlt
      obtain ⟨y, hck⟩ : ∃ y, cs.getD i Cl.zero = y := ⟨_, rfl⟩
      rw [hck] at hat hat2
      obtain ⟨n, s, a, b, g, t, d, e⟩ := y
      have hs := fun W => rsame_c n s a b g t d e n s a b g t d e W
      simp only [sameC_self] at hs
      have HS := Lib.hid hs
      have HPW := Lib.hid (fun W (h : Below wr.heap.size wr W) => hat W (hB.trans (h.mono hB.size)))
      have HQW := Lib.hid (fun W (h : Below wr.heap.size wr W) => hat2 W (hB.trans (h.mono hB.size)))
      have HRB := Lib.hid (fun W (h : Below wr.heap.size wr W) => row_cells ((h.block _ (Array.getElem?_eq_some_iff.1 hr).1).trans hr))
      have HRC := Lib.hid (fun W (h : Below wr.heap.size wr W) => row_cells ((h.block _ (Array.getElem?_eq_some_iff.1 hr2).1).trans hr2))
      clear hck hB hr hr2 hat hat2 hs
      go_upto_region 6 with (fail)
      clear r1
      refine wp_region_flow [none,none,none,none,none,none,none,none,none,none,none,none,none,none,none,none,none,none,none,none,none,none,none,none,none,none,none, some 0, some 1, some 2, some 3, some 4, some 5, some 6, some 7, some 8, some 9, some 10, some 11] (fun i => [u27, u28, u29, u30, u31, u32, u33, u34, u35, u36, u37, u38].getD i undef) [(fun v _ => v = .pointer (some ⟨B, 1, none⟩)), (fun v _ => v = .slice (some ⟨bk, off, none⟩) m cap), (fun v _ => v = .int .i64 (i : Int)), (fun v _ => v = .pointer (some ⟨bk, off + i * 8, none⟩)), (fun v _ => v = .agg #[.int .i64 n, .int .i64 s, .int .i64 a, .int .i64 b, .bool g, .string (text t), .int .i64 d, .int .i64 e]), (fun v _ => v = .pointer (some ⟨B + 1, 1, none⟩)), (fun v _ => v = .slice (some ⟨bk2, off2, none⟩) m cap2), (fun v _ => v = .int .i64 (i : Int)), (fun v _ => v = .pointer (some ⟨bk2, off2 + i * 8, none⟩)), (fun v _ => v = .agg #[.int .i64 n, .int .i64 s, .int .i64 a, .int .i64 b, .bool g, .string (text t), .int .i64 d, .int .i64 e]), (fun v _ => v = .bool true), (fun v _ => v = .bool false)] (by kernel_rfl) (by kernel_rfl) rfl rfl rfl ?_ ?_ ?_
      · intro g hg v X Y hX hY hv
        simp only [List.mem_cons, List.not_mem_nil, or_false] at hg
        rcases hg with rfl | rfl | rfl | rfl | rfl | rfl | rfl | rfl | rfl | rfl | rfl | rfl
        all_goals first
          | exact hv
          | exact hv.kept hY
      · simp only [flowOps, and_true]
        refine ⟨?_,?_,?_,?_,?_,?_,?_,?_,?_,?_,?_,?_⟩
        · intro xs W hW hn
          simp only [flowAct, zwc, zwn]
          go_wp2_with (fail)
          exact ⟨rfl, _, rfl, Below.refl _ _, rfl⟩
        · intro xs W hW hn
          obtain ⟨-, rb1, -⟩ := HRB.out W hW
          simp [flowNeeds, Region.binds] at hn
          simp only [flowAct, zwc, zwn]
          try simp only [hn]
          go_wp2_with (fail)
          exact ⟨rfl, _, rfl, Below.refl _ _, rfl⟩
        · intro xs W hW hn
          simp only [flowAct, zwc, zwn]
          go_wp2_with (fail)
          exact ⟨rfl, _, rfl, Below.refl _ _, rfl⟩
        · intro xs W hW hn
          simp [flowNeeds, Region.binds] at hn
          simp only [flowAct, zwc, zwn]
          try simp only [hn]
          go_wp2_with (fail)
          exact ⟨rfl, _, rfl, Below.refl _ _, rfl⟩
        · intro xs W hW hn
          obtain ⟨p0, p1, p2, p3, p4, p5, p6, p7⟩ := HPW.out W hW
          simp only at p0 p1 p2 p3 p4 p5 p6 p7
          simp [flowNeeds, Region.binds] at hn
          simp only [flowAct, zwc, zwn]
          try simp only [hn]
          go_wp2_with (fail)
          exact ⟨rfl, _, rfl, Below.refl _ _, rfl⟩
        · intro xs W hW hn
          simp only [flowAct, zwc, zwn]
          go_wp2_with (fail)
          exact ⟨rfl, _, rfl, Below.refl _ _, rfl⟩
        · intro xs W hW hn
          obtain ⟨-, rb1, -⟩ := HRC.out W hW
          simp [flowNeeds, Region.binds] at hn
          simp only [flowAct, zwc, zwn]
          try simp only [hn]
          go_wp2_with (fail)
          exact ⟨rfl, _, rfl, Below.refl _ _, rfl⟩
        · intro xs W hW hn
          simp only [flowAct, zwc, zwn]
          go_wp2_with (fail)
          exact ⟨rfl, _, rfl, Below.refl _ _, rfl⟩
        · intro xs W hW hn
          simp [flowNeeds, Region.binds] at hn
          simp only [flowAct, zwc, zwn]
          try simp only [hn]
          go_wp2_with (fail)
          exact ⟨rfl, _, rfl, Below.refl _ _, rfl⟩
        · intro xs W hW hn
          obtain ⟨p0, p1, p2, p3, p4, p5, p6, p7⟩ := HQW.out W hW
          simp only at p0 p1 p2 p3 p4 p5 p6 p7
          simp [flowNeeds, Region.binds] at hn
          simp only [flowAct, zwc, zwn]
          try simp only [hn]
          go_wp2_with (fail)
          exact ⟨rfl, _, rfl, Below.refl _ _, rfl⟩
        · intro xs W hW hn
          simp [flowNeeds, Region.binds] at hn
          simp only [flowAct, zwc, zwn]
          simp only [hn]
          go_wp2_with (go_at_call 56; (with_reducible refine (HS.out _).mono ?_); rintro e9 w9 ⟨rfl, hb9⟩)
          exact ⟨rfl, _, rfl, hb9, rfl⟩
        · intro xs W hW hn
          simp [flowNeeds, Region.binds] at hn
          simp only [flowAct, zwc, zwn]
          try simp only [hn]
          go_wp2_with (fail)
          exact ⟨rfl, _, rfl, Below.refl _ _, rfl⟩
      · intro xs W hW hall
        simp only [flowAll, and_true, Nat.zero_add, Nat.reduceAdd] at hall
        obtain ⟨-,-,-,-,-,-,-,-,-,-,-, e11⟩ := hall
        simp only [flowAct, zwc, zwn]
        simp only [e11]
        go_wp2
        go_roundw
        case rel => exact ⟨i + 1, by omega, by go_num, HB.out.trans (hW.mono HB.out.size), (hW.block _ (Array.getElem?_eq_some_iff.1 HR.out).1).trans HR.out, (hW.block _ (Array.getElem?_eq_some_iff.1 HR2.out).1).trans HR2.out⟩
        case measure => simp [intOf]; omega
    · obtain rfl : i = m := by omega
      clear hB hr hr2
      go_wp2
      go_ret
      exact ⟨rfl, HB.out⟩
end Go.Proofs.Yteffbibmfpdenaa
end

section
namespace Go.Proofs.Yteffbibmfpdenaa
open Go.RowKit Go Go.Sort
set_option linter.unusedVariables false
set_option maxRecDepth 20000

/-- Rows as they lie in memory, each with its cells. -/
def RwsAt (W : World) (a : Option Addr) (m cap : Nat) (L : List Rw) : Prop := Ls 2 Rw.arr Rw.zero W a m cap L ∧ ∀ j, j < m → ∃ a' c, (L.getD j Rw.zero).u = .slice a' (L.getD j Rw.zero).cs.length c ∧ Cls W a' (L.getD j Rw.zero).cs.length c (L.getD j Rw.zero).cs
theorem OwnRw.at {W : World} {B n1 : Nat} {v : Value} {L : List Rw} (h : OwnRw W B n1 v L) : ∃ a cap, v = .slice a L.length cap ∧ RwsAt W a L.length cap L := by
  obtain ⟨a, cap, ev, hl⟩ := h.row.ls (z := Rw.zero) rw_size
  exact ⟨a, cap, ev, hl, fun j hj => (h.own j hj).1.cls⟩
theorem RwsAt.below {w w' : World} {a : Option Addr} {m cap : Nat} {L : List Rw} (h : RwsAt w a m cap L) (hb : Below w.heap.size w w') : RwsAt w' a m cap L :=
  ⟨h.1.below hb, fun j hj => by obtain ⟨a', c, e, hc⟩ := h.2 j hj; exact ⟨a', c, e, hc.below hb⟩⟩
theorem RwsAt.place {w : World} {a : Option Addr} {m cap : Nat} {L : List Rw} (h : RwsAt w a m cap L) {k : Nat} (hk : k < m) : ∃ b off a' n' c', a = some ⟨b, off, none⟩ ∧ (L.getD k Rw.zero).u = .slice a' n' c' ∧ n' = (L.getD k Rw.zero).cs.length ∧ Cls w a' n' c' (L.getD k Rw.zero).cs ∧
    ∀ W, Below w.heap.size w W → W.cell? ⟨b, off + k * 2, none⟩ = some (.string (text (L.getD k Rw.zero).k)) ∧ W.cell? ⟨b, off + k * 2 + 1, none⟩ = some (.slice a' n' c') := by
  obtain ⟨b, off, e, hat⟩ := h.1.at hk
  obtain ⟨a', c', eu, hc⟩ := h.2 k hk
  exact ⟨b, off, a', _, c', e, eu, rfl, hc, fun W hb => ⟨hat W hb 0 _ rfl, (hat W hb 1 (L.getD k Rw.zero).u rfl).trans (by rw [eu])⟩⟩
theorem pr_at {la lb : List Rw} (h : la.map Rw.pr = lb.map Rw.pr) {k : Nat} (hk : k < la.length) : (la.getD k Rw.zero).k = (lb.getD k Rw.zero).k ∧ (la.getD k Rw.zero).cs = (lb.getD k Rw.zero).cs := by
  have hl : la.length = lb.length := by have := congrArg List.length h; simpa using this
  have h2 := congrArg (fun l => l[k]?) h
  simp only [List.getElem?_map, List.getElem?_eq_getElem hk, List.getElem?_eq_getElem (show k < lb.length by omega), Option.map_some, Option.some.injEq] at h2
  rw [List.getD_eq_getElem?_getD, List.getD_eq_getElem?_getD, List.getElem?_eq_getElem hk, List.getElem?_eq_getElem (by omega)]
  exact ⟨congrArg Prod.fst h2, congrArg Prod.snd h2⟩

set_option maxRecDepth 100000 in
set_option maxHeartbeats 6400000 in
theorem rall_c {w : World} {x2 y2 : Option Addr} {m cap2 cap3 : Nat} {la lb : List Rw} (ha : RwsAt w x2 m cap2 la) (hb : RwsAt w y2 m cap3 lb) (he : la.map Rw.pr = lb.map Rw.pr) : Calls Try.prog 26 #[.slice x2 m cap2, .slice y2 m cap3] w (Tells (.bool true) w) := by
  have hal := ha.1.len
  have hale := ha.1.le
  have hame := ha.1.max
  have hble := hb.1.le
  have hbme := hb.1.max
  have HA := Lib.hid ha
  have HB := Lib.hid hb
  have HE := Lib.hid (fun k (hk : k < m) => pr_at he (k := k) (by rw [hal]; exact hk))
  clear ha hb he hal
  have hmi : (m != m) = false := by simp
  go_enter Try.func26, Try.ntmps26
  go_wp2
  go_loopw [5] (fun i wr => ∃ k : Nat, k ≤ m ∧ i = .int .i64 (k : Int) ∧ Below w.heap.size w wr) (fun i _ => m - (intOf i).toNat)
  case atStart => exact ⟨0, by omega, rfl, Below.refl _ _⟩
  case round =>
    obtain ⟨k, hk, rfl, hb⟩ := hrel
    have HBx := Lib.hid hb
    clear hb
    by_cases hlt : k < m
    · have hki : (k : Int) < (m : Int) := by omega
      have hkc : (k : Int) < (cap2 : Int) := by omega
      have hkd : (k : Int) < (cap3 : Int) := by omega
      obtain ⟨ba, offa, aa, na, ca, rfl, eu, ena, hca, hat⟩ := HA.out.place hlt
      obtain ⟨bb, offb, ab, nb, cb, rfl, eu2, enb, hcb, hat2⟩ := HB.out.place hlt
      obtain ⟨e1, e2⟩ := HE.out k hlt
      rw [← e1] at hat2
      rw [← e2] at hcb enb
      rw [← ena] at enb
      subst enb
      obtain ⟨kx, hkx⟩ : ∃ z, text (la.getD k Rw.zero).k = z := ⟨_, rfl⟩
      rw [hkx] at hat hat2
      have HPW := Lib.hid (fun W (h : Below wr.heap.size wr W) => hat W (HBx.out.trans (h.mono HBx.out.size)))
      have HQW := Lib.hid (fun W (h : Below wr.heap.size wr W) => hat2 W (HBx.out.trans (h.mono HBx.out.size)))
      have HSM := Lib.hid (fun W (h : Below wr.heap.size wr W) => rrowsame_c (hca.below (HBx.out.trans (h.mono HBx.out.size))) (hcb.below (HBx.out.trans (h.mono HBx.out.size))) kx)
      clear hat hat2 hkx eu eu2 hca hcb e1 e2 ena
      go_upto_region 6 with (fail)
      refine wp_region_flow [none,none,none,none,none,none,none,none,none,none,none,none,none,none,none,none,none, some 0, some 1, some 2, some 3, some 4, some 5, some 6, some 7, some 8, some 9] (fun i => [u17, u18, u19, u20, u21, u22, u23, u24, u25, u26].getD i undef) [(fun v _ => v = .slice (some ⟨ba, offa, none⟩) m cap2), (fun v _ => v = .int .i64 (k : Int)), (fun v _ => v = .pointer (some ⟨ba, offa + k * 2, none⟩)), (fun v _ => v = .agg #[.string kx, .slice aa nb ca]), (fun v _ => v = .slice (some ⟨bb, offb, none⟩) m cap3), (fun v _ => v = .int .i64 (k : Int)), (fun v _ => v = .pointer (some ⟨bb, offb + k * 2, none⟩)), (fun v _ => v = .agg #[.string kx, .slice ab nb cb]), (fun v _ => v = .bool true), (fun v _ => v = .bool false)] (by kernel_rfl) (by kernel_rfl) rfl rfl rfl ?_ ?_ ?_
      · intro g hg v X Y hX hY hv
        simp only [List.mem_cons, List.not_mem_nil, or_false] at hg
        rcases hg with rfl | rfl | rfl | rfl | rfl | rfl | rfl | rfl | rfl | rfl
        all_goals first
          | exact hv
          | exact hv.kept hY
      · simp only [flowOps, and_true]
        refine ⟨?_,?_,?_,?_,?_,?_,?_,?_,?_,?_⟩
        · intro xs W hW hn
          simp only [flowAct, zwc, zwn]
          go_wp2_with (fail)
          exact ⟨rfl, _, rfl, Below.refl _ _, rfl⟩
        · intro xs W hW hn
          simp only [flowAct, zwc, zwn]
          go_wp2_with (fail)
          exact ⟨rfl, _, rfl, Below.refl _ _, rfl⟩
        · intro xs W hW hn
          simp [flowNeeds, Region.binds] at hn
          simp only [flowAct, zwc, zwn]
          try simp only [hn]
          go_wp2_with (fail)
          exact ⟨rfl, _, rfl, Below.refl _ _, rfl⟩
        · intro xs W hW hn
          obtain ⟨p0, p1⟩ := HPW.out W hW
          simp [flowNeeds, Region.binds] at hn
          simp only [flowAct, zwc, zwn]
          try simp only [hn]
          go_wp2_with (fail)
          exact ⟨rfl, _, rfl, Below.refl _ _, rfl⟩
        · intro xs W hW hn
          simp only [flowAct, zwc, zwn]
          go_wp2_with (fail)
          exact ⟨rfl, _, rfl, Below.refl _ _, rfl⟩
        · intro xs W hW hn
          simp only [flowAct, zwc, zwn]
          go_wp2_with (fail)
          exact ⟨rfl, _, rfl, Below.refl _ _, rfl⟩
        · intro xs W hW hn
          simp [flowNeeds, Region.binds] at hn
          simp only [flowAct, zwc, zwn]
          try simp only [hn]
          go_wp2_with (fail)
          exact ⟨rfl, _, rfl, Below.refl _ _, rfl⟩
        · intro xs W hW hn
          obtain ⟨q0, q1⟩ := HQW.out W hW
          simp [flowNeeds, Region.binds] at hn
          simp only [flowAct, zwc, zwn]
          try simp only [hn]
          go_wp2_with (fail)
          exact ⟨rfl, _, rfl, Below.refl _ _, rfl⟩
        · intro xs W hW hn
          simp [flowNeeds, Region.binds] at hn
          simp only [flowAct, zwc, zwn]
          simp only [hn]
          go_wp2_with (go_at_call 25; (with_reducible refine (HSM.out W hW).mono ?_); rintro e9 w9 ⟨rfl, hb9⟩)
          exact ⟨rfl, _, rfl, hb9, rfl⟩
        · intro xs W hW hn
          simp [flowNeeds, Region.binds] at hn
          simp only [flowAct, zwc, zwn]
          try simp only [hn]
          go_wp2_with (fail)
          exact ⟨rfl, _, rfl, Below.refl _ _, rfl⟩
      · intro xs W hW hall
        simp only [flowAll, and_true, Nat.zero_add, Nat.reduceAdd] at hall
        obtain ⟨-,-,-,-,-,-,-,-,-, eL⟩ := hall
        simp only [flowAct, zwc, zwn]
        simp only [eL]
        have HBy := Lib.hid (HBx.out.trans (hW.mono HBx.out.size))
        clear eL hW
        go_wp2
        go_roundw
        case rel => exact ⟨k + 1, by omega, by go_num, HBy.out⟩
        case measure => simp [intOf]; omega
    · obtain rfl : m = k := by omega
      go_wp2
      go_ret
      exact ⟨rfl, HBx.out⟩
end Go.Proofs.Yteffbibmfpdenaa
end

section
namespace Go.Proofs.Yteffbibmfpdenaa
open Go.RowKit Go Go.Sort
set_option linter.unusedVariables false
set_option maxRecDepth 20000

set_option maxRecDepth 100000 in
set_option maxHeartbeats 3200000 in
theorem bare_c {w : World} {x2 : Option Addr} {m cap2 : Nat} {cs : List Cl} (hl : Cls w x2 m cap2 cs) (key : ByteArray) :
    Calls Try.prog 66 #[.agg #[.string key, .slice x2 m cap2]] w (Tells (.bool (bareS cs)) w) := by
  have hll := hl.len
  have hle2 := hl.le
  have hmax2 := hl.max
  have HL := Lib.hid hl
  have HBT := Lib.hid (@bare_take cs)
  have HBN := Lib.hid (fun (k : Nat) => @bare_not cs k)
  have hnil : text ([] : List UInt8) = ⟨#[]⟩ := rfl
  obtain ⟨R, hR⟩ : ∃ z, bareS cs = z := ⟨_, rfl⟩
  rw [hR]
  have HRV := Lib.hid hR
  have hb := alloc_below w (.cells #[.string key, .slice x2 m cap2] 30)
  have hr := heap_alloc_new w (.cells #[.string key, .slice x2 m cap2] 30)
  clear hR hl
  go_enter Try.func66, Try.ntmps66
  go_upto_region 1 with (fail)
  obtain ⟨B, hB⟩ : ∃ q, w.heap.size = q := ⟨_, rfl⟩
  have HBe := Lib.hid hB
  rw [hB] at hr ⊢
  clear hB
  generalize w.alloc (.cells #[.string key, .slice x2 m cap2] 30) = W1 at *
  have HR1 := Lib.hid hr
  have HB1 := Lib.hid hb
  have r1 : W1.cell? ⟨B, 1, none⟩ = some (.slice x2 m cap2) := by rw [cell_of_row _ B 1 _ _ (0, 0) hr]; rfl
  clear hr hb
  go_wp2
  clear r1
  go_loopw [8] (fun i wr => ∃ k : Nat, k ≤ m ∧ i = .int .i64 k ∧ bareS (cs.take k) = true ∧ Below w.heap.size w wr ∧ wr.heap[B]? = some (.cells #[.string key, .slice x2 m cap2] 30 (0, 0))) (fun i _ => m - (intOf i).toNat)
  case atStart => exact ⟨0, by omega, rfl, rfl, HB1.out, HR1.out⟩
  case round =>
    clear HB1 HR1
    obtain ⟨i, hk, rfl, hbt, hB, hr⟩ := hrel
    have r1 : wr.cell? ⟨B, 1, none⟩ = some (.slice x2 m cap2) := by rw [cell_of_row _ B 1 _ _ (0, 0) hr]; rfl
    by_cases hlt : i < m
    · have hki : (i : Int) < (m : Int) := by omega
      have hki2 : (i : Int) < (cap2 : Int) := by omega
      obtain ⟨bk, off, rfl, hat⟩ := HL.out.at hlt
      have hst := HBT.out i (by omega)
      have hno := HBN.out i (by omega)
      obtain ⟨y, hck⟩ : ∃ y, cs.getD i Cl.zero = y := ⟨_, rfl⟩
      rw [hck] at hat hst hno
      obtain ⟨n, s, a, b, g, t, d, e⟩ := y
      obtain ⟨p0, p1, p2, p3, p4, p5, p6, p7⟩ := hat wr hB
      simp only at p0 p1 p2 p3 p4 p5 p6 p7
      obtain ⟨C, hC⟩ : ∃ z, sameC ⟨n, s, a, b, g, t, d, e⟩ Cl.zero = z := ⟨_, rfl⟩
      rw [hC] at hst hno
      rw [hbt] at hst
      have HST := Lib.hid hst
      have HNO := Lib.hid hno
      have HB := Lib.hid hB
      have HR := Lib.hid hr
      have hcn := cell_neb n s a b g t d e 0 0 0 0 false [] 0 0 C hC
      rw [hnil] at hcn
      have hceg := cell_eqg
      clear hck hC hst hno hB hr hat hbt
      go_upto_region 4 with (fail)
      have hx2 := Cel.new wr n s a b g t d e
      have HB2 := Lib.hid (HB.out.alloc HB.out.size (.cells #[.int .i64 n, .int .i64 s, .int .i64 a, .int .i64 b, .bool g, .string (text t), .int .i64 d, .int .i64 e] 79))
      have HR2 := Lib.hid ((Below.heap_alloc wr (.cells #[.int .i64 n, .int .i64 s, .int .i64 a, .int .i64 b, .bool g, .string (text t), .int .i64 d, .int .i64 e] 79) B (Array.getElem?_eq_some_iff.1 HR.out).1).trans HR.out)
      obtain ⟨gx, hgx⟩ : ∃ g, wr.heap.size = g := ⟨_, rfl⟩
      rw [hgx] at hx2 ⊢
      generalize wr.alloc (.cells #[.int .i64 n, .int .i64 s, .int .i64 a, .int .i64 b, .bool g, .string (text t), .int .i64 d, .int .i64 e] 79) = W2 at *
      obtain ⟨k0, k1, k2, k3, k4, k5, k6, k7⟩ := hx2.cs
      clear hx2 p0 p1 p2 p3 p4 p5 p6 p7 HB HR hgx r1
      cases C with
      | true =>
        go_wp2
        go_roundw
        case rel => exact ⟨i + 1, by omega, by go_num, HST.out, HB2.out, HR2.out⟩
        case measure => simp [intOf]; omega
      | false =>
        have HRR := Lib.hid (show R = false by rw [← HRV.out]; exact HNO.out rfl)
        go_wp2
        go_ret
        exact ⟨by rw [HRR.out]; rfl, HB2.out⟩
    · obtain rfl : i = m := by omega
      rw [List.take_of_length_le (by omega)] at hbt
      have HRR := Lib.hid (show R = true by rw [← HRV.out]; exact hbt)
      have HB := Lib.hid hB
      clear hbt hB hr
      go_wp2
      go_ret
      exact ⟨by rw [HRR.out]; rfl, HB.out⟩

set_option maxRecDepth 100000 in
set_option maxHeartbeats 3200000 in
theorem rbare_c {w : World} {x2 : Option Addr} {m cap2 : Nat} {cs : List Cl} (hl : Cls w x2 m cap2 cs) (key : ByteArray) :
    Calls Try.prog 69 #[.agg #[.string key, .slice x2 m cap2]] w (Tells (.bool (bareS cs)) w) := by
  have hll := hl.len
  have hle2 := hl.le
  have hmax2 := hl.max
  have HL := Lib.hid hl
  have HBT := Lib.hid (@bare_take cs)
  have HBN := Lib.hid (fun (k : Nat) => @bare_not cs k)
  have hnil : text ([] : List UInt8) = ⟨#[]⟩ := rfl
  obtain ⟨R, hR⟩ : ∃ z, bareS cs = z := ⟨_, rfl⟩
  rw [hR]
  have HRV := Lib.hid hR
  have hb := alloc_below w (.cells #[.string key, .slice x2 m cap2] 30)
  have hr := heap_alloc_new w (.cells #[.string key, .slice x2 m cap2] 30)
  clear hR hl
  go_enter Try.func69, Try.ntmps69
  go_upto_region 1 with (fail)
  obtain ⟨B, hB⟩ : ∃ q, w.heap.size = q := ⟨_, rfl⟩
  have HBe := Lib.hid hB
  rw [hB] at hr ⊢
  clear hB
  generalize w.alloc (.cells #[.string key, .slice x2 m cap2] 30) = W1 at *
  have HR1 := Lib.hid hr
  have HB1 := Lib.hid hb
  have r1 : W1.cell? ⟨B, 1, none⟩ = some (.slice x2 m cap2) := by rw [cell_of_row _ B 1 _ _ (0, 0) hr]; rfl
  clear hr hb
  go_wp2
  clear r1
  go_loopw [3] (fun i wr => ∃ k : Nat, k ≤ m ∧ i = .int .i64 k ∧ bareS (cs.take k) = true ∧ Below w.heap.size w wr ∧ wr.heap[B]? = some (.cells #[.string key, .slice x2 m cap2] 30 (0, 0))) (fun i _ => m - (intOf i).toNat)
  case atStart => exact ⟨0, by omega, rfl, rfl, HB1.out, HR1.out⟩
  case round =>
    clear HB1 HR1
    obtain ⟨i, hk, rfl, hbt, hB, hr⟩ := hrel
    have r1 : wr.cell? ⟨B, 1, none⟩ = some (.slice x2 m cap2) := by rw [cell_of_row _ B 1 _ _ (0, 0) hr]; rfl
    by_cases hlt : i < m
    · have hki : (i : Int) < (m : Int) := by omega
      have hki2 : (i : Int) < (cap2 : Int) := by omega
      obtain ⟨bk, off, rfl, hat⟩ := HL.out.at hlt
      have hst := HBT.out i (by omega)
      have hno := HBN.out i (by omega)
      obtain ⟨y, hck⟩ : ∃ y, cs.getD i Cl.zero = y := ⟨_, rfl⟩
      rw [hck] at hat hst hno
      obtain ⟨n, s, a, b, g, t, d, e⟩ := y
      obtain ⟨p0, p1, p2, p3, p4, p5, p6, p7⟩ := hat wr hB
      simp only at p0 p1 p2 p3 p4 p5 p6 p7
      obtain ⟨C, hC⟩ : ∃ z, sameC ⟨n, s, a, b, g, t, d, e⟩ Cl.zero = z := ⟨_, rfl⟩
      rw [hC] at hst hno
      rw [hbt] at hst
      have HST := Lib.hid hst
      have HNO := Lib.hid hno
      have HB := Lib.hid hB
      have HR := Lib.hid hr
      have hs := fun W => rsame_c n s a b g t d e 0 0 0 0 false [] 0 0 W
      rw [show sameC ⟨n, s, a, b, g, t, d, e⟩ ⟨0, 0, 0, 0, false, [], 0, 0⟩ = C from hC, hnil] at hs
      have HS := Lib.hid hs
      clear hck hC hst hno hB hr hat hbt hs
      cases C with
      | true =>
        go_wp2_with (go_at_call 56; (with_reducible refine (HS.out _).mono ?_); rintro e9 w9 ⟨rfl, hb9⟩)
        go_roundw
        case rel => exact ⟨i + 1, by omega, by go_num, HST.out, HB.out.trans (hb9.mono HB.out.size), (hb9.block _ (Array.getElem?_eq_some_iff.1 HR.out).1).trans HR.out⟩
        case measure => simp [intOf]; omega
      | false =>
        have HRR := Lib.hid (show R = false by rw [← HRV.out]; exact HNO.out rfl)
        go_wp2_with (go_at_call 56; (with_reducible refine (HS.out _).mono ?_); rintro e9 w9 ⟨rfl, hb9⟩)
        go_ret
        exact ⟨by rw [HRR.out]; rfl, HB.out.trans (hb9.mono HB.out.size)⟩
    · obtain rfl : i = m := by omega
      rw [List.take_of_length_le (by omega)] at hbt
      have HRR := Lib.hid (show R = true by rw [← HRV.out]; exact hbt)
      have HB := Lib.hid hB
      clear hbt hB hr
      go_wp2
      go_ret
      exact ⟨by rw [HRR.out]; rfl, HB.out⟩
end Go.Proofs.Yteffbibmfpdenaa
end

section
namespace Go.Proofs.Yteffbibmfpdenaa
open Go.RowKit Go Go.Sort
set_option linter.unusedVariables false
set_option maxRecDepth 20000

/-- The example's schema. -/
def exG : List Grp := [([97], 1), ([98], 2)]
def schO : Obj := .cells #[.string ⟨#[97]⟩, .int .i64 1, .string ⟨#[98]⟩, .int .i64 2] 138 (0, 0)
/-- The schema in memory. -/
def SchV (v : Value) (W : World) : Prop := ∃ q, v = .slice (some ⟨q, 0, none⟩) 2 2 ∧ W.heap[q]? = some schO
theorem SchV.kept {v : Value} {X Y : World} (h : SchV v X) (hb : Below X.heap.size X Y) : SchV v Y := by
  obtain ⟨q, h1, h2⟩ := h
  exact ⟨q, h1, (hb.block _ (Array.getElem?_eq_some_iff.1 h2).1).trans h2⟩
theorem SchV.grs {v : Value} {W : World} (h : SchV v W) : ∃ q, v = .slice (some ⟨q, 0, none⟩) 2 2 ∧ Grs W (some ⟨q, 0, none⟩) 2 2 exG := by
  obtain ⟨q, h1, h2⟩ := h
  refine ⟨q, h1, rfl, Nat.le_refl _, by omega, .inr ⟨q, 0, rfl, fun i hi => ?_⟩⟩
  have hc := fun j => cell_of_row W q j #[.string ⟨#[97]⟩, .int .i64 1, .string ⟨#[98]⟩, .int .i64 2] 138 (0, 0) h2
  rcases (by omega : i = 0 ∨ i = 1) with rfl | rfl
  · exact ⟨(hc 0).trans rfl, (hc 1).trans rfl⟩
  · exact ⟨(hc 2).trans rfl, (hc 3).trans rfl⟩
end Go.Proofs.Yteffbibmfpdenaa
end

section
namespace Go.Proofs.Yteffbibmfpdenaa
open Go.RowKit Go Go.Sort
set_option linter.unusedVariables false
set_option maxRecDepth 20000

theorem heap_below {W W' : World} {q : Nat} {o : Obj} (h : W.heap[q]? = some o) (hb : Below W.heap.size W W') : W'.heap[q]? = some o := (hb.block _ (Array.getElem?_eq_some_iff.1 h).1).trans h
/-- New and View, as a law's walk wants them. -/
theorem RowPost.cells {r : List UInt8 × List Cl × Int} {w : World} {e : Ending} {w' : World} (h : RowPost r w e w') : ∃ a c, e = .returned (.tuple #[.agg #[.string (text r.1), .slice a r.2.1.length c], .int .i64 r.2.2]) ∧ Cls w' a r.2.1.length c r.2.1 ∧ Below w.heap.size w w' := by
  obtain ⟨v, rfl, ho, hb⟩ := h
  obtain ⟨a, c, rfl, hc⟩ := ho.cls
  exact ⟨a, c, rfl, hc, hb⟩
end Go.Proofs.Yteffbibmfpdenaa
end

section
namespace Go.Proofs.Yteffbibmfpdenaa
open Go.RowKit Go Go.Sort
set_option linter.unusedVariables false
set_option maxRecDepth 20000

theorem run_copy_wide (P : Program) (w : World) (dT sT ty elem : TypeId) (g dLen dCap : Nat) (sp : Option Addr) (sLen sCap sz : Nat) (cur : Array Value) (t : TypeId) (cs : List Value)
    (hu : P.underlying dT = some (.slice elem)) (hs : (P.info? elem).map (·.size) = some sz)
    (hg : w.heap[g]? = some (.cells cur t (0, 0))) (hn : cs.length = Nat.min sLen dLen * sz)
    (hsrc : cs = [] ∧ sLen = 0 ∨ ∃ a, sp = some a ∧ ∀ j v, cs[j]? = some v → w.cell? (a.add j) = some v) (hfit : cs.length ≤ cur.size) (h1 : ∀ v ∈ cs, v.oneCell' = true) :
    (Builtin.copy_ #[dT, sT] ty #[.slice (some ⟨g, 0, none⟩) dLen dCap, .slice sp sLen sCap]).run P w =
      .ok (goInt (Nat.min sLen dLen)) (w.setRow g (cs ++ cur.toList.drop cs.length).toArray) := by
  have hst := run_storeCells_at P g 0 t cs 0 cur w hg (by simpa using hfit) h1
  simp only [Nat.zero_add, List.take_zero, List.nil_append] at hst
  cases hq : P.info? elem with
  | none => simp [hq] at hs
  | some i =>
    have hi : i.size = sz := by simpa [hq] using hs
    rcases hsrc with ⟨rfl, rfl⟩ | ⟨a, rfl, hsrc⟩
    · have e0 : Nat.min 0 dLen = 0 := Nat.zero_min _
      cases sp with
      | none => simp [Builtin.copy_, run_underlying hu, Builtin.lenOf, Builtin.firstCells, sizeOf, typeInfo, hq, e0, hst]
      | some a =>
        have hl := run_loadCells_list (P := P) w a [] (by simp)
        simp only [List.length_nil] at hl
        simp [Builtin.copy_, run_underlying hu, Builtin.lenOf, Builtin.firstCells, sizeOf, typeInfo, hq, e0, hl, hst]
    · have hl := run_loadCells_list (P := P) w a cs hsrc
      rw [hn] at hl
      simp [Builtin.copy_, run_underlying hu, Builtin.lenOf, Builtin.firstCells, sizeOf, typeInfo, hq, hi, hl, hst]

theorem wpList_copy_wide {P : Program} {w : World} {ops : Array Oper} {rest : List Oper} {o : Oper} {a : Act} {Q : Exit → Act → World → Prop} (hgd : o.guard = none) (d s : Operand) (dT sT : TypeId)
    (ho : o.op = .call { callee := .builtin .copy, args := #[d, s], argTypes := #[dT, sT] }) (elem : TypeId) (hu : P.underlying dT = some (.slice elem)) (sz : Nat) (hsz : (P.info? elem).map (·.size) = some sz)
    (g dLen dCap : Nat) (sp : Option Addr) (sLen sCap : Nat) (hd : a.eval d = .slice (some ⟨g, 0, none⟩) dLen dCap) (hs : a.eval s = .slice sp sLen sCap)
    (cur : Array Value) (t : TypeId) (hg : w.heap[g]? = some (.cells cur t (0, 0))) (cs : List Value) (hn : cs.length = Nat.min sLen dLen * sz)
    (hsrc : cs = [] ∧ sLen = 0 ∨ ∃ a, sp = some a ∧ ∀ j v, cs[j]? = some v → w.cell? (a.add j) = some v) (hfit : cs.length ≤ cur.size) (h1 : ∀ v ∈ cs, v.oneCell' = true)
    (h : wpList P ops Q rest (a.put o.dst (goInt (Nat.min sLen dLen))) (w.setRow g (cs ++ cur.toList.drop cs.length).toArray)) : wpList P ops Q (o :: rest) a w := by
  refine wpList_plain hgd fun K hK => ?_
  have hrun := run_copy_wide P w dT sT o.type elem g dLen dCap sp sLen sCap sz cur t cs hu hsz hg hn hsrc hfit h1
  unfold Oper.wp
  simp [execOp, ho, resolve, invoke, builtin, hd, hs, hrun, Result.andThen]
  exact hK _ _ h
theorem Cls.src {w : World} {x : Option Addr} {m cap : Nat} {cs : List Cl} (h : Cls w x m cap cs) : cCells cs = [] ∧ m = 0 ∨ ∃ a, x = some a ∧ ∀ j v, (cCells cs)[j]? = some v → w.cell? (a.add j) = some v := by
  have hl := h.len
  by_cases h0 : m = 0
  · left
    obtain rfl : cs = [] := List.eq_nil_of_length_eq_zero (by omega)
    exact ⟨rfl, h0⟩
  · right
    obtain ⟨b, off, rfl, _⟩ := h.at (k := 0) (by omega)
    refine ⟨_, rfl, fun j v hj => ?_⟩
    have hjl := (List.getElem?_eq_some_iff.1 hj).1
    rw [cCells_length] at hjl
    have hk : j / 8 < m := by omega
    obtain ⟨b', off', e, hat⟩ := h.at hk
    obtain ⟨rfl, rfl⟩ : b = b' ∧ off = off' := by
      have := Option.some.inj e
      injection this with e1 e2
      exact ⟨e1, e2⟩
    have hc := hat w (Below.refl _ _)
    have hg := cCells_get cs (j / 8) (j % 8) (by omega) (Nat.mod_lt _ (by omega))
    have e8 : j / 8 * 8 + j % 8 = j := by omega
    rw [e8, hj] at hg
    rw [addr_add]
    obtain ⟨c0, c1, c2, c3, c4, c5, c6, c7⟩ := hc
    have hm : j % 8 < 8 := Nat.mod_lt _ (by omega)
    obtain ⟨r, hr⟩ : ∃ r, j % 8 = r := ⟨_, rfl⟩
    rw [hr] at hg hm e8
    rw [show off + j = off + j / 8 * 8 + r by omega]
    generalize cs.getD (j / 8) Cl.zero = c at *
    generalize off + j / 8 * 8 = z at *
    rcases (by omega : r = 0 ∨ r = 1 ∨ r = 2 ∨ r = 3 ∨ r = 4 ∨ r = 5 ∨ r = 6 ∨ r = 7) with rfl | rfl | rfl | rfl | rfl | rfl | rfl | rfl
    · rw [Nat.add_zero, c0, hg]; rfl
    · rw [c1, hg]; rfl
    · rw [c2, hg]; rfl
    · rw [c3, hg]; rfl
    · rw [c4, hg]; rfl
    · rw [c5, hg]; rfl
    · rw [c6, hg]; rfl
    · rw [c7, hg]; rfl
theorem cCells_one (cs : List Cl) : ∀ v ∈ cCells cs, v.oneCell' = true := by
  intro v hv
  obtain ⟨c, _, h⟩ := List.mem_flatMap.1 hv
  simp [Cl.arr] at h
  rcases h with rfl | rfl | rfl | rfl | rfl | rfl | rfl | rfl <;> rfl

set_option maxRecDepth 100000 in
set_option maxHeartbeats 3200000 in
theorem copied_c {w : World} {x : Option Addr} {m cap : Nat} {cs : List Cl} (hl : Cls w x m cap cs) (hm : m ≤ 1000000) (key : ByteArray) :
    Calls Try.prog 124 #[.agg #[.string key, .slice x m cap]] w (fun e w' => ∃ g, e = .returned (.agg #[.string key, .slice (some ⟨g, 0, none⟩) m m]) ∧ w.heap.size ≤ g ∧ w'.heap[g]? = some (.cells (cCells cs).toArray 79 (0, 0)) ∧ Below w.heap.size w w') := by
  have hll := hl.len
  have hle := hl.le
  have hmax := hl.max
  obtain ⟨i0, hi, hz0, hz1, hz2⟩ := info_parts Try.infoC
  have hb := (alloc_below w (.cells #[.string key, .slice x m cap] 30)).alloc (by simp) (.cells #[.string ⟨#[]⟩, .slice none 0 0] 30)
  have hr0 : ((w.alloc (.cells #[.string key, .slice x m cap] 30)).alloc (.cells #[.string ⟨#[]⟩, .slice none 0 0] 30)).heap[w.heap.size]? = some (.cells #[.string key, .slice x m cap] 30 (0, 0)) := (Below.heap_alloc _ _ _ (by simp)).trans (heap_alloc_new w _)
  have hr1 := heap_alloc_new (w.alloc (.cells #[.string key, .slice x m cap] 30)) (.cells #[.string ⟨#[]⟩, .slice none 0 0] 30)
  rw [World.size_alloc] at hr1
  have HL := Lib.hid hl
  clear hl
  go_enter Try.func124, Try.ntmps124
  go_upto_region 1 with (fail)
  obtain ⟨B, hB⟩ : ∃ q, w.heap.size = q := ⟨_, rfl⟩
  have HBe := Lib.hid hB
  rw [hB] at hr0 hr1 ⊢
  clear hB
  generalize (w.alloc (.cells #[.string key, .slice x m cap] 30)).alloc (.cells #[.string ⟨#[]⟩, .slice none 0 0] 30) = W1 at *
  obtain ⟨r0, r1, -⟩ := row_cells hr0
  have HR0 := Lib.hid hr0
  have HR1 := Lib.hid hr1
  have HB1 := Lib.hid hb
  clear hr0 hr1 hb
  go_upto_region 2 with (refine wpList_make_full _ rfl _ _ _ rfl w.heap.size 79 i0 _ 8 Try.underlying28 hi hz0 hz1 .i64 .i64 _ _ m rfl rfl rfl rfl (by rw [hz2]; omega) (by unfold maxLen; omega) HB1.out.size ?_; intro w2 ho2 hg2)
  obtain ⟨-, ⟨ev, -⟩ | ⟨g, c, cur, ev, hBg, hgc, -,-, hcs, -⟩⟩ := ho2
  · cases ev
  · injection ev with e1 e2 e3
    injection e1 with e1
    injection e1 with e1
    subst e3
    rw [e1]
    have hlt := (Array.getElem?_eq_some_iff.1 hgc).1
    have hb2 := HB1.out.grown hg2 HB1.out.size (fun k e => by cases e)
    have hr2 := heap_grown HR0.out hg2 (by simp)
    have he2 := heap_grown HR1.out hg2 (by simp)
    have hgB : g ≠ B := fun e => by rw [e, hr2] at hgc; cases hgc
    have hgB1 : g ≠ B + 1 := fun e => by rw [e, he2] at hgc; cases hgc
    have hsrc := (HL.out.below hb2).src
    have hccl := cCells_length cs
    rw [hll] at hccl
    have h1c := cCells_one cs
    obtain ⟨r0, r1, -⟩ := row_cells hr2
    obtain ⟨X, hX⟩ : ∃ X, cCells cs = X := ⟨_, rfl⟩
    rw [hX] at hsrc hccl h1c
    have HX := Lib.hid hX
    clear hX
    have hdr : (X ++ cur.toList.drop X.length).toArray = X.toArray := by rw [List.drop_of_length_le (by simp; omega), List.append_nil]
    have HB3 := Lib.hid (below_setRow hb2 hBg X.toArray)
    have hr3 := (setRow_other w2 g B X.toArray (fun e => hgB e.symm)).trans hr2
    have he3 := (setRow_other w2 g (B + 1) X.toArray (fun e => hgB1 e.symm)).trans he2
    have HG3 := Lib.hid (setRow_heap w2 g cur X.toArray _ _ hgc)
    have hbg := hBg
    go_upto_region 3 with (refine wpList_copy_wide rfl _ _ 28 28 rfl 79 Try.underlying28 8 (by kernel_rfl) g m m x m cap rfl rfl cur 79 hgc X (by rw [hccl]; congr 1; exact (Nat.min_self m).symm) hsrc (by omega) h1c ?_; rw [hdr])
    obtain ⟨s0, s1, -⟩ := row_cells hr3
    obtain ⟨z0, z1, zf⟩ := row_cells he3
    have HS := Lib.hid (row_set he3 key (.slice (some ⟨g, 0, none⟩) m m))
    have HW := Lib.hid ((HB3.out.setCell (p := ⟨B + 1, 0, none⟩) (by have := HBe.out; simp; omega) (.string key)).setCell (p := ⟨B + 1, 1, none⟩) (by have := HBe.out; simp; omega) (.slice (some ⟨g, 0, none⟩) m m))
    have HGW := Lib.hid ((Below.heap_setCell ((w2.setRow g X.toArray).setCell ⟨B + 1, 0, none⟩ (.string key)) ⟨B + 1, 1, none⟩ (.slice (some ⟨g, 0, none⟩) m m) g (by simp; omega)).trans ((Below.heap_setCell (w2.setRow g X.toArray) ⟨B + 1, 0, none⟩ (.string key) g (by simp; omega)).trans HG3.out))
    clear hr3 he3 hr2 he2 hgc hsrc h1c hdr hb2 hg2 r0 r1
    go_wp2
    exact bodyPost_ret (results_cell_row rfl _ _ (B + 1) 30 _ (0, 0) _ rfl HS.out Try.underlying30 rfl (by kernel_rfl)) rfl ⟨g, rfl, hbg, by rw [HX.out]; exact HGW.out, HW.out⟩
end Go.Proofs.Yteffbibmfpdenaa
end

section
namespace Go.Proofs.Yteffbibmfpdenaa
open Go.RowKit Go Go.Sort
set_option linter.unusedVariables false
set_option maxRecDepth 20000

theorem zeros (W : World) : CelC (W.alloc (.cells #[.int .i64 0, .int .i64 0, .int .i64 0, .int .i64 0, .bool false, .string ⟨#[]⟩, .int .i64 0, .int .i64 0] 79)) W.heap.size Cl.zero := Cel.new W 0 0 0 0 false [] 0 0
theorem CelC.cs {W : World} {q : Nat} {n s a b : Int} {g : Bool} {t : List UInt8} {d e : Int} (h : CelC W q ⟨n, s, a, b, g, t, d, e⟩) : CelAt W q 0 ⟨n, s, a, b, g, t, d, e⟩ := by
  have := Cel.cs h
  simpa [CelAt] using this

set_option maxHeartbeats 6400000 in
theorem join_c {w : World} {x : Option Addr} {m cap : Nat} {l : List Cl} (hl : Cls w x m cap l) : Calls Try.prog 125 #[.slice x m cap] w (Tells (.agg (joinC l).arr) w) := by
  have hln := hl.len
  have hnle := hl.le
  have hnm := hl.max
  have ho := (zeros w).alloc (.cells #[.int .i64 0, .int .i64 0, .int .i64 0, .int .i64 0, .bool false, .string ⟨#[]⟩, .int .i64 0, .int .i64 0] 79)
  have hq := zeros (w.alloc (.cells #[.int .i64 0, .int .i64 0, .int .i64 0, .int .i64 0, .bool false, .string ⟨#[]⟩, .int .i64 0, .int .i64 0] 79))
  simp only [World.size_alloc] at hq
  have hb := (alloc_below w (.cells #[.int .i64 0, .int .i64 0, .int .i64 0, .int .i64 0, .bool false, .string ⟨#[]⟩, .int .i64 0, .int .i64 0] 79)).alloc (by simp) (.cells #[.int .i64 0, .int .i64 0, .int .i64 0, .int .i64 0, .bool false, .string ⟨#[]⟩, .int .i64 0, .int .i64 0] 79)
  have hmf := mkf
  have HL := Lib.hid hl
  clear hl
  go_enter Try.func125, Try.ntmps125
  go_upto_region 2 with (fail)
  have HB := Lib.hid hb
  obtain ⟨B, hB⟩ : ∃ q, w.heap.size = q := ⟨_, rfl⟩
  have HBe := Lib.hid hB
  rw [hB] at ho hq ⊢
  clear hB hb
  generalize (w.alloc (.cells #[.int .i64 0, .int .i64 0, .int .i64 0, .int .i64 0, .bool false, .string ⟨#[]⟩, .int .i64 0, .int .i64 0] 79)).alloc (.cells #[.int .i64 0, .int .i64 0, .int .i64 0, .int .i64 0, .bool false, .string ⟨#[]⟩, .int .i64 0, .int .i64 0] 79) = W1 at *
  have HQ := Lib.hid hq
  have HO := Lib.hid ho
  clear hq ho
  go_wp2
  go_loopw [10] (fun i wr => ∃ k : Nat, k ≤ m ∧ i = .int .i64 k ∧ CelC wr (B + 1) (joinC (l.take k)) ∧ CelC wr B Cl.zero ∧ Below w.heap.size w wr) (fun i _ => m - (intOf i).toNat)
  case atStart => exact ⟨0, by omega, rfl, HQ.out, HO.out, HB.out⟩
  case round =>
    clear HQ HO HB
    obtain ⟨i, hk, rfl, hq, ho, hB⟩ := hrel
    by_cases hlt : i < m
    · have hki : (i : Int) < (m : Int) := by omega
      have hki2 : (i : Int) < (cap : Int) := by omega
      obtain ⟨bk, off, rfl, hat⟩ := HL.out.at hlt
      have HJ := Lib.hid (join_take l i (by omega))
      obtain ⟨y, hy⟩ : ∃ y, l.getD i Cl.zero = y := ⟨_, rfl⟩
      obtain ⟨j, hj⟩ : ∃ j, joinC (l.take i) = j := ⟨_, rfl⟩
      rw [hy] at HJ hat
      rw [hj] at hq HJ
      obtain ⟨n, s, a, b, g, t, d, e⟩ := j
      obtain ⟨n', s', a', b', g', t', d', e'⟩ := y
      obtain ⟨p0, p1, p2, p3, p4, p5, p6, p7⟩ := hat wr hB
      simp only at p0 p1 p2 p3 p4 p5 p6 p7
      have HQ := Lib.hid hq
      have HO := Lib.hid ho
      have HB := Lib.hid hB
      have HC := Lib.hid (fun W h => join1_c n s a b g t d e n' s' a' b' g' t' d' e' (B + 1) (w := W) h)
      clear hat hy hj hq ho hB
      go_upto_region 6 with (fail)
      have hq2 := HQ.out.alloc (.cells #[.int .i64 n', .int .i64 s', .int .i64 a', .int .i64 b', .bool g', .string (text t'), .int .i64 d', .int .i64 e'] 79)
      have hx2 := Cel.new wr n' s' a' b' g' t' d' e'
      have hlo := hq2.lt
      have hgr := HQ.out.lt
      have HO2 := Lib.hid (HO.out.alloc (.cells #[.int .i64 n', .int .i64 s', .int .i64 a', .int .i64 b', .bool g', .string (text t'), .int .i64 d', .int .i64 e'] 79))
      have HB2 := Lib.hid (HB.out.alloc HB.out.size (.cells #[.int .i64 n', .int .i64 s', .int .i64 a', .int .i64 b', .bool g', .string (text t'), .int .i64 d', .int .i64 e'] 79))
      have HS := Lib.hid (show B + 1 < (wr.alloc (.cells #[.int .i64 n', .int .i64 s', .int .i64 a', .int .i64 b', .bool g', .string (text t'), .int .i64 d', .int .i64 e'] 79)).heap.size by simp; omega)
      obtain ⟨gx, hgx⟩ : ∃ g, wr.heap.size = g := ⟨_, rfl⟩
      rw [hgx] at hx2 ⊢
      generalize wr.alloc (.cells #[.int .i64 n', .int .i64 s', .int .i64 a', .int .i64 b', .bool g', .string (text t'), .int .i64 d', .int .i64 e'] 79) = W2 at *
      have HF := Lib.hid (show Cel W2 (B + 1) n s a b g t d e from hq2)
      obtain ⟨c0, c1, c2, c3, c4, c5, c6, c7⟩ := HF.out.cs
      obtain ⟨k0, k1, k2, k3, k4, k5, k6, k7⟩ := hx2.cs
      clear hq2 hx2 p0 p1 p2 p3 p4 p5 p6 p7 HQ HO HB hgx hlo hgr
      go_wp2_with (go_at_call 137; (with_reducible refine (HC.out _ HF.out).mono ?_); rintro e9 w3 ⟨rfl, hw3⟩)
      have HV := Lib.hid (show CelC w3 (B + 1) (twoS ⟨n, s, a, b, g, t, d, e⟩ ⟨n', s', a', b', g', t', d', e'⟩) from hw3.cell)
      have HO3 := Lib.hid (show CelC w3 B Cl.zero from hw3.cel HO2.out (by omega))
      have HB3 := Lib.hid (HB2.out.trans (hw3.below (by have := HBe.out; omega) (Nat.le_of_lt HS.out)))
      clear hw3 c0 c1 c2 c3 c4 c5 c6 c7 k0 k1 k2 k3 k4 k5 k6 k7
      go_wp2
      go_roundw
      case rel => exact ⟨i + 1, by omega, rfl, by rw [HJ.out]; exact HV.out, HO3.out, HB3.out⟩
      case measure => simp [intOf]; omega
    · obtain rfl : i = m := by omega
      rw [List.take_of_length_le (by omega)] at hq
      obtain ⟨J, hJ⟩ : ∃ j, joinC l = j := ⟨_, rfl⟩
      rw [hJ] at hq
      obtain ⟨n, s, a, b, g, t, d, e⟩ := J
      have hq' : Cel wr (B + 1) n s a b g t d e := hq
      have ho' : Cel wr B 0 0 0 0 false [] 0 0 := ho
      obtain ⟨c0, c1, c2, c3, c4, c5, c6, c7⟩ := hq'.cs
      obtain ⟨o0, o1, o2, o3, o4, o5, o6, o7⟩ := ho'.cs
      have ofz := ho'.fz
      have HO := Lib.hid ho'
      have HB := Lib.hid hB
      have HJ2 := Lib.hid hJ
      clear hq ho hB hq' ho' hJ
      go_wp2
      refine bodyPost_ret (results_cell_row rfl _ _ B 79 _ (0, 0) _ rfl (HO.out.put n s a b g t d e) Try.underlying79 rfl (sizeC n s a b g t d e)) rfl ⟨by rw [HJ2.out]; rfl, put_below HB.out (by have := HBe.out; omega) n s a b g t d e⟩
end Go.Proofs.Yteffbibmfpdenaa
end

section
namespace Go.Proofs.Yteffbibmfpdenaa
open Go.RowKit Go Go.Sort
set_option linter.unusedVariables false
set_option maxRecDepth 20000

theorem cells_put {W : World} {g k : Nat} {cs : List Cl} (hg : W.heap[g]? = some (.cells (cCells cs).toArray 79 (0, 0))) (hk : k < cs.length) (n9 s9 a9 b9 : Int) (g9 : Bool) (t9 : List UInt8) (d9 e9 : Int) :
    (((((((((W.setCell ⟨g, k * 8, none⟩ (.int .i64 n9)).setCell ⟨g, k * 8 + 1, none⟩ (.int .i64 s9)).setCell ⟨g, k * 8 + 2, none⟩ (.int .i64 a9)).setCell ⟨g, k * 8 + 3, none⟩ (.int .i64 b9)).setCell ⟨g, k * 8 + 4, none⟩ (.bool g9)).setCell ⟨g, k * 8 + 5, none⟩ (.string (text t9))).setCell ⟨g, k * 8 + 6, none⟩ (.int .i64 d9)).setCell ⟨g, k * 8 + 7, none⟩ (.int .i64 e9))).heap[g]? = some (.cells (cCells (cs.set k ⟨n9, s9, a9, b9, g9, t9, d9, e9⟩)).toArray 79 (0, 0)) := by
  have h0 := heap_setCell_same W g (k * 8) _ _ (.int .i64 n9) hg
  have h1 := heap_setCell_same _ g (k * 8 + 1) _ _ (.int .i64 s9) h0
  have h2 := heap_setCell_same _ g (k * 8 + 2) _ _ (.int .i64 a9) h1
  have h3 := heap_setCell_same _ g (k * 8 + 3) _ _ (.int .i64 b9) h2
  have h4 := heap_setCell_same _ g (k * 8 + 4) _ _ (.bool g9) h3
  have h5 := heap_setCell_same _ g (k * 8 + 5) _ _ (.string (text t9)) h4
  have h6 := heap_setCell_same _ g (k * 8 + 6) _ _ (.int .i64 d9) h5
  have h7 := heap_setCell_same _ g (k * 8 + 7) _ _ (.int .i64 e9) h6
  rw [h7]
  refine congrArg (fun z => some (Obj.cells z 79 (0, 0))) ?_
  apply Array.ext_getElem?
  intro j
  have hl := cCells_length cs
  have hl2 := cCells_length (cs.set k ⟨n9, s9, a9, b9, g9, t9, d9, e9⟩)
  rw [List.length_set] at hl2
  simp only [Array.getElem?_setIfInBounds, List.getElem?_toArray, Array.size_setIfInBounds, List.size_toArray, hl]
  by_cases hj : j < cs.length * 8
  · have hd : j / 8 < cs.length := by omega
    have hm : j % 8 < 8 := Nat.mod_lt _ (by omega)
    have e8 : j / 8 * 8 + j % 8 = j := by omega
    have g1 := cCells_get cs (j / 8) (j % 8) hd hm
    have g2 := cCells_get (cs.set k ⟨n9, s9, a9, b9, g9, t9, d9, e9⟩) (j / 8) (j % 8) (by rw [List.length_set]; exact hd) hm
    rw [e8] at g1 g2
    rw [g2, g1]
    obtain ⟨r, hr⟩ : ∃ r, j % 8 = r := ⟨_, rfl⟩
    rw [hr] at hm e8 ⊢
    by_cases hq : j / 8 = k
    · rw [hq] at e8 ⊢
      have e9 : (cs.set k ⟨n9, s9, a9, b9, g9, t9, d9, e9⟩).getD k Cl.zero = ⟨n9, s9, a9, b9, g9, t9, d9, e9⟩ := by simp [hk]
      rw [e9]
      subst e8
      have hk8 : k * 8 + 7 < cs.length * 8 := by omega
      rcases (by omega : r = 0 ∨ r = 1 ∨ r = 2 ∨ r = 3 ∨ r = 4 ∨ r = 5 ∨ r = 6 ∨ r = 7) with rfl | rfl | rfl | rfl | rfl | rfl | rfl | rfl
      all_goals
        repeat rw [if_neg (by omega)]
        rw [if_pos (by omega), if_pos (by omega)]
        rfl
    · have e9 : (cs.set k ⟨n9, s9, a9, b9, g9, t9, d9, e9⟩).getD (j / 8) Cl.zero = cs.getD (j / 8) Cl.zero := by
        simp only [List.getD_eq_getElem?_getD, List.getElem?_set]
        rw [if_neg (fun e => hq e.symm)]
      rw [e9]
      repeat rw [if_neg (by omega)]
  · rw [List.getElem?_eq_none (by omega), List.getElem?_eq_none (by omega)]
    repeat rw [if_neg (by omega)]
theorem cells_put_other {W : World} {g k q : Nat} (hq : q ≠ g) (n9 s9 a9 b9 : Int) (g9 : Bool) (t9 : List UInt8) (d9 e9 : Int) : (((((((((W.setCell ⟨g, k * 8, none⟩ (.int .i64 n9)).setCell ⟨g, k * 8 + 1, none⟩ (.int .i64 s9)).setCell ⟨g, k * 8 + 2, none⟩ (.int .i64 a9)).setCell ⟨g, k * 8 + 3, none⟩ (.int .i64 b9)).setCell ⟨g, k * 8 + 4, none⟩ (.bool g9)).setCell ⟨g, k * 8 + 5, none⟩ (.string (text t9))).setCell ⟨g, k * 8 + 6, none⟩ (.int .i64 d9)).setCell ⟨g, k * 8 + 7, none⟩ (.int .i64 e9))).heap[q]? = W.heap[q]? :=
  (Below.heap_setCell _ ⟨g, k * 8 + 7, none⟩ _ q hq).trans ((Below.heap_setCell _ ⟨g, k * 8 + 6, none⟩ _ q hq).trans ((Below.heap_setCell _ ⟨g, k * 8 + 5, none⟩ _ q hq).trans ((Below.heap_setCell _ ⟨g, k * 8 + 4, none⟩ _ q hq).trans ((Below.heap_setCell _ ⟨g, k * 8 + 3, none⟩ _ q hq).trans ((Below.heap_setCell _ ⟨g, k * 8 + 2, none⟩ _ q hq).trans ((Below.heap_setCell _ ⟨g, k * 8 + 1, none⟩ _ q hq).trans (Below.heap_setCell _ ⟨g, k * 8, none⟩ _ q hq)))))))
def ClsV (l : List Cl) (v : Value) (W : World) : Prop := ∃ a n c, v = .slice a n c ∧ Cls W a n c l
theorem ClsV.kept {l : List Cl} {v : Value} {X Y : World} (h : ClsV l v X) (hb : Below X.heap.size X Y) : ClsV l v Y := by
  obtain ⟨a, n, c, rfl, h⟩ := h
  exact ⟨a, n, c, rfl, h.below hb⟩
theorem own_lit {W : World} {g B m : Nat} {cs : List Cl} (hg : W.heap[g]? = some (.cells (cCells cs).toArray 79 (0, 0))) (hB : B ≤ g) (hm : cs.length = m) (h : m ≤ 1000000) : OwnC W B (.slice (some ⟨g, 0, none⟩) m m) cs := by
  subst hm
  refine ⟨by simp [cCells_length], .inr ⟨g, cs.length, (cCells cs).toArray, rfl, hB, hg, Nat.le_refl _, by unfold maxLen; omega, by simp [cCells_length], ?_⟩⟩
  rw [List.take_of_length_le (by simp [cCells_length])]

end Go.Proofs.Yteffbibmfpdenaa
end

section
namespace Go.Proofs.Yteffbibmfpdenaa
open Go.RowKit Go Go.Sort
set_option linter.unusedVariables false
set_option maxRecDepth 20000

attribute [local go_sem] Oper.semAt_some
/-- The cells of a join, up to a place. -/
def zipN (ca cb : List Cl) : Nat → List Cl
  | 0 => ca
  | k + 1 => (zipN ca cb k).set k (joinC [ca.getD k Cl.zero, cb.getD k Cl.zero])
theorem zipN_len (ca cb : List Cl) : ∀ k, (zipN ca cb k).length = ca.length
  | 0 => rfl
  | k + 1 => by show ((zipN ca cb k).set k _).length = _; rw [List.length_set]; exact zipN_len ca cb k
theorem zipN_get (ca cb : List Cl) (i : Nat) (hi : i < ca.length) : ∀ k, (zipN ca cb k).getD i Cl.zero = if i < k then joinC [ca.getD i Cl.zero, cb.getD i Cl.zero] else ca.getD i Cl.zero
  | 0 => by simp [zipN]
  | k + 1 => by
    have ih := zipN_get ca cb i hi k
    have hl := zipN_len ca cb k
    show ((zipN ca cb k).set k _).getD i Cl.zero = _
    rw [List.getD_eq_getElem?_getD, List.getElem?_set]
    by_cases e : k = i
    · subst e; simp [hl, hi]
    · rw [if_neg e, ← List.getD_eq_getElem?_getD, ih]
      by_cases h : i < k
      · rw [if_pos h, if_pos (by omega)]
      · rw [if_neg h, if_neg (by omega)]
theorem rowidx0 (a b : ByteArray) (xa xb : Option Addr) (m n c e : Nat) (W : World) : (Instr.index 179 (.agg #[.string a, .slice xa m c, .string b, .slice xb n e]) (.int .i64 0)).run Try.prog W = .ok (.agg #[.string a, .slice xa m c]) W := by kernel_rfl
theorem rowidx1 (a b : ByteArray) (xa xb : Option Addr) (m n c e : Nat) (W : World) : (Instr.index 179 (.agg #[.string a, .slice xa m c, .string b, .slice xb n e]) (.int .i64 1)).run Try.prog W = .ok (.agg #[.string b, .slice xb n e]) W := by kernel_rfl
/-- Two rows of one key, put together, or why not. -/
def rjoinS (gs : List Grp) (ka : List UInt8) (ca : List Cl) (kb : List UInt8) (cb : List Cl) : List UInt8 × List Cl × Int :=
  if ¬ rgoodS gs ka ca = 0 then ([], [], rgoodS gs ka ca) else if ¬ rgoodS gs kb cb = 0 then ([], [], rgoodS gs kb cb) else if ¬ ka = kb then ([], [], 100) else (ka, zipN ca cb ca.length, 0)

/-- Between two rounds. -/
def JoinI (ca cb : List Cl) (oS oA oZ : Obj) (n₀ gg S B Z base : Nat) (w : World) (xs : List Nat) (W : World) : Prop :=
  W.heap[gg]? = some (.cells (cCells (zipN ca cb xs.length)).toArray 79 (0, 0)) ∧ W.heap[S]? = some oS ∧ W.heap[B]? = some oA ∧ W.heap[Z]? = some oZ ∧ Below n₀ w W ∧ base ≤ W.heap.size
theorem JoinI.own {ca cb : List Cl} {c1 c2 c3 : Array Value} {n₀ gg S B Z base B9 : Nat} {w : World} (h1 : n₀ ≤ B9) (h2 : n₀ ≤ base) : OwnT B9 138 (JoinI ca cb (.cells c1 30 (0, 0)) (.cells c2 30 (0, 0)) (.cells c3 30 (0, 0)) n₀ gg S B Z base w) := by
  rintro xs X Y row ⟨hg, hS, hB, hZ, hw, hs⟩ hgr hr
  exact ⟨turn_keep hgr hr hg (by decide), turn_keep hgr hr hS (by decide), turn_keep hgr hr hB (by decide), turn_keep hgr hr hZ (by decide), turn_below hgr hr h1 (Nat.le_trans h2 hs) hw, Nat.le_trans hs hgr.size⟩
theorem leaves_put {T : TypeId} {base : Nat} (W : World) (g k : Nat) (n9 s9 a9 b9 : Int) (g9 : Bool) (t9 : List UInt8) (d9 e9 : Int) : LeavesT T (fun j => j = g) base W (((((((((W.setCell ⟨g, k * 8, none⟩ (.int .i64 n9)).setCell ⟨g, k * 8 + 1, none⟩ (.int .i64 s9)).setCell ⟨g, k * 8 + 2, none⟩ (.int .i64 a9)).setCell ⟨g, k * 8 + 3, none⟩ (.int .i64 b9)).setCell ⟨g, k * 8 + 4, none⟩ (.bool g9)).setCell ⟨g, k * 8 + 5, none⟩ (.string (text t9))).setCell ⟨g, k * 8 + 6, none⟩ (.int .i64 d9)).setCell ⟨g, k * 8 + 7, none⟩ (.int .i64 e9))) :=
  ⟨(cells_put_below (w := W) (k := k) (Below.refl 0 W) (Nat.zero_le g) n9 s9 a9 b9 g9 t9 d9 e9).size, fun j o hj hb _ => (cells_put_other hb n9 s9 a9 b9 g9 t9 d9 e9).trans hj⟩

set_option maxRecDepth 100000 in
set_option maxHeartbeats 12800000 in
theorem rowjoin_c {w : World} {x xa xb : Option Addr} {n1 cap ma capa mb capb : Nat} {gs : List Grp} {ca cb : List Cl} (hg : Grs w x n1 cap gs) (hs : ∀ g ∈ gs, g.1.length ≤ 9223372036854775807)
    (hla : Cls w xa ma capa ca) (hxa : ∀ c ∈ ca, c.t.length ≤ 9223372036854775807) (ka : List UInt8) (hka : ka.length ≤ 9223372036854775807)
    (hlb : Cls w xb mb capb cb) (hxb : ∀ c ∈ cb, c.t.length ≤ 9223372036854775807) (kb : List UInt8) (hkb : kb.length ≤ 9223372036854775807) :
    Calls Try.prog 95 #[.slice x n1 cap, .agg #[.string (text ka), .slice xa ma capa], .agg #[.string (text kb), .slice xb mb capb]] w (RowPost (rjoinS gs ka ca kb cb) w) := by
  have hgl := hg.len
  have hal := hla.len
  have hbl := hlb.len
  have hlea := hla.le
  have hmaxa := hla.max
  have hleb := hlb.le
  have hmaxb := hlb.max
  have hGA := fun W (h : Below w.heap.size w W) => rowgood_c (hg.below h) hs (hla.below h) hxa ka hka
  have hGB := fun W (h : Below w.heap.size w W) => rowgood_c (hg.below h) hs (hlb.below h) hxb kb hkb
  have hCP := fun (hm : ma ≤ 1000000) W (h : Below w.heap.size w W) => copied_c (hla.below h) hm (text ka)
  have HIA := Lib.hid (@rgood_inv gs ka ca)
  have HIB := Lib.hid (@rgood_inv gs kb cb)
  have hts := text_same ka kb
  obtain ⟨RA, hRA⟩ : ∃ z, rgoodS gs ka ca = z := ⟨_, rfl⟩
  obtain ⟨RB, hRB⟩ : ∃ z, rgoodS gs kb cb = z := ⟨_, rfl⟩
  have hRV : rjoinS gs ka ca kb cb = if ¬ RA = 0 then ([], [], RA) else if ¬ RB = 0 then ([], [], RB) else if ¬ ka = kb then ([], [], 100) else (ka, zipN ca cb ca.length, 0) := by unfold rjoinS; rw [hRA, hRB]
  simp only [hRA] at hGA
  simp only [hRB] at hGB
  rw [hRA] at HIA
  rw [hRB] at HIB
  obtain ⟨RV, hRVe⟩ : ∃ z, rjoinS gs ka ca kb cb = z := ⟨_, rfl⟩
  rw [hRVe] at hRV ⊢
  obtain ⟨tka, htka⟩ : ∃ z, text ka = z := ⟨_, rfl⟩
  obtain ⟨tkb, htkb⟩ : ∃ z, text kb = z := ⟨_, rfl⟩
  rw [htka] at hGA hCP ⊢
  rw [htkb] at hGB ⊢
  rw [htka, htkb] at hts
  obtain ⟨KE, hKE⟩ : ∃ z, decide (ka = kb) = z := ⟨_, rfl⟩
  rw [hKE] at hts
  have HTK := Lib.hid htka
  have HRV := Lib.hid hRV
  have HKE := Lib.hid hKE
  have HGA := Lib.hid hGA
  have HGB := Lib.hid hGB
  have HCP := Lib.hid hCP
  have hb := ((alloc_below w (.cells #[.string tka, .slice xa ma capa] 30)).alloc (by simp) (.cells #[.string tkb, .slice xb mb capb] 30)).alloc (by simp; omega) (.cells #[.string ⟨#[]⟩, .slice none 0 0] 30)
  have hra : (((w.alloc (.cells #[.string tka, .slice xa ma capa] 30)).alloc (.cells #[.string tkb, .slice xb mb capb] 30)).alloc (.cells #[.string ⟨#[]⟩, .slice none 0 0] 30)).heap[w.heap.size]? = some (.cells #[.string tka, .slice xa ma capa] 30 (0, 0)) := (Below.heap_alloc _ _ _ (by simp; omega)).trans ((Below.heap_alloc _ _ _ (by simp)).trans (heap_alloc_new w _))
  have hrb := heap_below (heap_alloc_new (w.alloc (.cells #[.string tka, .slice xa ma capa] 30)) (.cells #[.string tkb, .slice xb mb capb] 30)) (alloc_below _ (.cells #[.string ⟨#[]⟩, .slice none 0 0] 30))
  have hz := heap_alloc_new ((w.alloc (.cells #[.string tka, .slice xa ma capa] 30)).alloc (.cells #[.string tkb, .slice xb mb capb] 30)) (.cells #[.string ⟨#[]⟩, .slice none 0 0] 30)
  simp only [World.size_alloc] at hrb hz
  clear hGA hGB hCP hRA hRB hRV hRVe htka htkb hKE
  have hi0 := rowidx0 tka tkb xa xb ma mb capa capb
  have hi1 := rowidx1 tka tkb xa xb ma mb capa capb
  refine (callsIn_wide (n := 3)).1 ?_
  refine callsIn_of_wp_marks Try.func95 rfl trivial ?_ rfl
  simp only [Try.ntmps95, List.size_toArray, List.length_cons, List.length_nil, Nat.reduceAdd, Nat.reduceSub, Array.replicate_succ, Array.replicate_zero, List.push_toArray, List.append_toArray, List.nil_append, List.cons_append]
  refine wpIn_wide.2 ?_
  go_upto_region 1 with (fail)
  obtain ⟨B, hB⟩ : ∃ q, w.heap.size = q := ⟨_, rfl⟩
  have HBe := Lib.hid hB
  rw [hB] at hra hrb hz ⊢
  clear hB
  generalize ((w.alloc (.cells #[.string tka, .slice xa ma capa] 30)).alloc (.cells #[.string tkb, .slice xb mb capb] 30)).alloc (.cells #[.string ⟨#[]⟩, .slice none 0 0] 30) = W1 at *
  obtain ⟨r0, r1, -⟩ := row_cells hra
  obtain ⟨s0, s1, -⟩ := row_cells hrb
  have HA1 := Lib.hid hra
  have HR1 := Lib.hid hrb
  have HZ1 := Lib.hid hz
  have HB1 := Lib.hid hb
  clear hra hrb hz hb
  go_wp2
  refine wp_loop_rounds 3 ?_
  rw [rounds_succ]
  obtain ⟨u0, u1, -⟩ := row_cells (heap_alloc_new W1 (.cells #[.string tka, .slice xa ma capa] 30))
  have HBa := Lib.hid (HB1.out.alloc HB1.out.size (.cells #[.string tka, .slice xa ma capa] 30))
  have hal1 := alloc_below W1 (.cells #[.string tka, .slice xa ma capa] 30)
  have HA2 := Lib.hid (heap_below HA1.out hal1)
  have HR2 := Lib.hid (heap_below HR1.out hal1)
  have HZ2 := Lib.hid (heap_below HZ1.out hal1)
  have hbad : ∀ (f : Int), RV = ([], [], f) → ∀ (W : World), Below w.heap.size w W → RowPost RV w (.returned (.tuple #[.agg #[.string ⟨#[]⟩, .slice none 0 0], .int .i64 f])) ((W.setCell ⟨B + 1 + 1, 0, none⟩ (.string ⟨#[]⟩)).setCell ⟨B + 1 + 1, 1, none⟩ (.slice none 0 0)) := fun f h W hW => by
    rw [h]
    exact ⟨_, rfl, OwnC.nil _ _, (hW.setCell (p := ⟨B + 1 + 1, 0, none⟩) (by have := HBe.out; simp; omega) _).setCell (p := ⟨B + 1 + 1, 1, none⟩) (by have := HBe.out; simp; omega) _⟩
  have HBAD := Lib.hid hbad
  clear hbad hal1 r0 r1 s0 s1
  by_cases h0 : RA = 0
  · subst h0
    go_wp2_with (go_at_call 65; (with_reducible refine (HGA.out _ HBa.out).mono ?_); rintro e9 w2 ⟨rfl, hb2⟩; have HB2 := Lib.hid (HBa.out.trans (hb2.mono HBa.out.size)); have HA3 := Lib.hid (heap_below HA2.out hb2); have HR3 := Lib.hid (heap_below HR2.out hb2); have HZ3 := Lib.hid (heap_below HZ2.out hb2); clear hb2 u0 u1)
    rw [rounds_succ]
    clear HA1 HA2 HR1 HR2 HZ1 HZ2 HB1 HBa HGA
    obtain ⟨u0, u1, -⟩ := row_cells (heap_alloc_new w2 (.cells #[.string tkb, .slice xb mb capb] 30))
    have HBb := Lib.hid (HB2.out.alloc HB2.out.size (.cells #[.string tkb, .slice xb mb capb] 30))
    have hal2 := alloc_below w2 (.cells #[.string tkb, .slice xb mb capb] 30)
    have HA4 := Lib.hid (heap_below HA3.out hal2)
    have HR4 := Lib.hid (heap_below HR3.out hal2)
    have HZ4 := Lib.hid (heap_below HZ3.out hal2)
    clear hal2 HA3 HR3 HZ3
    by_cases h1 : RB = 0
    · subst h1
      go_wp2_with (go_at_call 65; (with_reducible refine (HGB.out _ HBb.out).mono ?_); rintro e9 w3 ⟨rfl, hb3⟩; have HB3 := Lib.hid (HBb.out.trans (hb3.mono HBb.out.size)); have HA5 := Lib.hid (heap_below HA4.out hb3); have HR5 := Lib.hid (heap_below HR4.out hb3); have HZ5 := Lib.hid (heap_below HZ4.out hb3); clear hb3 u0 u1)
      rw [rounds_succ]
      clear HA4 HR4 HZ4 HBb HGB HB2
      obtain ⟨r0, r1, -⟩ := row_cells HA5.out
      obtain ⟨s0, s1, -⟩ := row_cells HR5.out
      cases KE with
      | false =>
        have HRR := Lib.hid (show RV = ([], [], 100) by rw [HRV.out, if_neg (by simp), if_neg (by simp), if_pos (of_decide_eq_false HKE.out)])
        obtain ⟨z0, z1, zf⟩ := row_cells HZ5.out
        go_wp2
        exact ⟨_, res_cell_tmp rfl _ _ (B + 1 + 1) 30 _ (0, 0) _ (.int .i64 100) rfl rfl (row_set HZ5.out ⟨#[]⟩ (.slice none 0 0)) Try.underlying30 rfl (by kernel_rfl), HBAD.out _ HRR.out _ HB3.out⟩
      | true =>
        have hkk : ka = kb := of_decide_eq_true HKE.out
        have HRR := Lib.hid (show RV = (ka, zipN ca cb ca.length, 0) by rw [HRV.out, if_neg (by simp), if_neg (by simp), if_neg (by simp [hkk])])
        have hpg := (HIA.out (by first | rfl | trivial)).1
        have hla2 := (HIA.out (by first | rfl | trivial)).2.2.1
        have hlb2 := (HIB.out (by first | rfl | trivial)).2.2.1
        have h4 := pgood_len hpg
        have hma : ma = n1 := by omega
        have hmb : mb = n1 := by omega
        subst hma
        subst hmb
        have hm4 : mb ≤ 4 := by omega
        clear HIA HIB hpg hla2 hlb2 hkk HRV HKE HBAD
        go_upto_region 11 with (go_at_call 124; (with_reducible refine (HCP.out (by omega) _ HB3.out).mono ?_); rintro e9 w5 ⟨gg, rfl, hgg, hgc, hb5⟩)
        have hal := alloc_below w5 (.cells #[.string tka, .slice (some ⟨gg, 0, none⟩) mb mb] 30)
        have HS6 := Lib.hid (heap_alloc_new w5 (.cells #[.string tka, .slice (some ⟨gg, 0, none⟩) mb mb] 30))
        have HG6 := Lib.hid (heap_below hgc hal)
        have HA6 := Lib.hid (heap_below (heap_below HA5.out hb5) hal)
        have HR6 := Lib.hid (heap_below (heap_below HR5.out hb5) hal)
        have HZ6 := Lib.hid (heap_below (heap_below HZ5.out hb5) hal)
        have HB6 := Lib.hid ((HB3.out.trans (hb5.mono HB3.out.size)).trans (hal.mono (Nat.le_trans HB3.out.size hb5.size)))
        have HGB := Lib.hid (Nat.le_trans HB3.out.size hgg)
        have HGS := Lib.hid (show gg < w5.heap.size from (Array.getElem?_eq_some_iff.1 hgc).1)
        have HZS := Lib.hid (show B + 1 + 1 < gg from Nat.lt_of_lt_of_le (Array.getElem?_eq_some_iff.1 HZ5.out).1 hgg)
        obtain ⟨S, hS⟩ : ∃ q, w5.heap.size = q := ⟨_, rfl⟩
        rw [hS] at HS6 HGS ⊢
        generalize w5.alloc (.cells #[.string tka, .slice (some ⟨gg, 0, none⟩) mb mb] 30) = W6 at *
        clear hal hb5 hgc hgg hS r0 r1 s0 s1 HA5 HR5 HZ5 HB3 HCP hi0 hi1 hts
        obtain ⟨s0, s1, -⟩ := row_cells HR6.out
        go_wp2_with (go_at_call 92; (with_reducible refine places_c.mono ?_); rintro e9 w7 ⟨rfl, rfl⟩)
        have bL := heap_alloc_new W6 (.cells #[.slice x mb cap] 60)
        have bR := heap_alloc_new (W6.alloc (.cells #[.slice x mb cap] 60)) (.cells #[.string tkb, .slice xb mb capb] 30)
        replace bL := (Below.heap_alloc (W6.alloc (.cells #[.slice x mb cap] 60)) (.cells #[.string tkb, .slice xb mb capb] 30) W6.heap.size (by simp)).trans bL
        simp only [World.size_alloc] at bR
        have hbW := (alloc_below W6 (.cells #[.slice x mb cap] 60)).alloc (by simp) (.cells #[.string tkb, .slice xb mb capb] 30)
        have hsz : ((W6.alloc (.cells #[.slice x mb cap] 60)).alloc (.cells #[.string tkb, .slice xb mb capb] 30)).heap.size = W6.heap.size + 1 + 1 := by simp
        have hSlt : S < W6.heap.size := (Array.getElem?_eq_some_iff.1 HS6.out).1
        obtain ⟨W0, hW0⟩ : ∃ W0, (W6.alloc (.cells #[.slice x mb cap] 60)).alloc (.cells #[.string tkb, .slice xb mb capb] 30) = W0 := ⟨_, rfl⟩
        rw [hW0] at bL bR hbW hsz ⊢
        clear hW0
        have hB0 := HB6.out.trans (hbW.mono HB6.out.size)
        have hS0 := heap_below HS6.out hbW
        have hA0 := heap_below HA6.out hbW
        have hZ0 := heap_below HZ6.out hbW
        have hG0' := heap_below HG6.out hbW
        obtain ⟨G0, hG⟩ : ∃ q, W6.heap.size = q := ⟨_, rfl⟩
        rw [hG] at bL bR hsz hSlt ⊢
        have HSZ := Lib.hid hsz
        have HSL := Lib.hid hSlt
        obtain ⟨Q9, hQ9⟩ : ∃ q, w2.heap.size = q := ⟨_, rfl⟩
        rw [hQ9]
        have hgs0 := HGS.out
        have hzs0 := HZS.out
        clear hG hbW hQ9 s0 s1 HS6 HG6 HA6 HR6 HZ6 HB6
        refine (wpIn_wide (n := 3)).1 ?_
        refine wpIn_range_tells (F := Fence.wide) rfl (by omega) (gf := 118) (lb := #[.pointer (some ⟨G0, 0, none⟩), .pointer (some ⟨G0 + 1, 0, none⟩)]) rfl trivial (enters_of Try.func118 (by kernel_rfl) rfl)
          (places_tells hg hlb hB0 2 G0 (G0 + 1) (by omega) (by omega) bL bR) KP.trans (fun W l o o' hl h ho _ => KP.putObj W l o o' (by have := hB0.size; omega) (by rintro k (rfl | rfl) <;> omega) h)
          (fun xs X Y row hs hg hr => hs) (fun xs X Y row hs hg hr => hs) (fun _ => rfl)
          (JoinI ca cb (.cells #[.string tka, .slice (some ⟨gg, 0, none⟩) mb mb] 30 (0, 0)) (.cells #[.string tka, .slice xa mb capa] 30 (0, 0)) (.cells #[.string ⟨#[]⟩, .slice none 0 0] 30 (0, 0)) w.heap.size gg S B (B + 1 + 1) W0.heap.size w) (fun _ _ _ => False) (JoinI.own hB0.size hB0.size) (fun c xs X Y row hs hg hr => hs)
          ⟨hG0', hS0, hA0, hZ0, hB0, Nat.le_refl _⟩
          (PlaceA gs cb (fun q k => #[.slice x mb cap, .agg #[.string tka, .slice xa mb capa], .agg #[.string tkb, .slice xb mb capb], undef, .pointer (some ⟨B, 0, none⟩), .pointer (some ⟨B + 1, 0, none⟩), .pointer (some ⟨B + 1 + 1, 0, none⟩), .int .i64 0, undef, .pointer (some ⟨Q9, 0, none⟩), .int .i64 0, .pointer (some ⟨S, 0, none⟩), .pointer (some ⟨q, 0, none⟩), .agg #[.string tka, .slice xa mb capa], .agg #[.string tkb, .slice xb mb capb], .agg #[.string tka, .slice xa mb capa, .string tkb, .slice xb mb capb], .int .i64 2, .bool false, .agg #[.string tkb, .slice xb mb capb], .slice x mb cap, .agg #[.string tkb, .slice xb mb capb], .int .i64 0, .int .i64 0, .bool false, undef,undef, .int .i64 2, .pointer (some ⟨B, 0, none⟩), .string tka, .pointer (some ⟨B + 1, 0, none⟩), .string tkb, .bool false, undef, .agg #[.string tka, .slice xa mb capa], .agg #[.string tka, .slice (some ⟨gg, 0, none⟩) mb mb], .slice x mb cap, .agg #[.string tkb, .slice xb mb capb], .func (.func 118) #[] #[.pointer (some ⟨G0, 0, none⟩), .pointer (some ⟨G0 + 1, 0, none⟩)], .agg (placeA gs cb k), undef,undef,undef,undef,undef,undef,undef,undef,undef,undef,undef,undef,undef,undef,undef,undef])) (fun k a' => PlaceA.own k a') ?assign ?body ?done ?stop
        case assign =>
          rintro q pre k W K hI - hK
          obtain ⟨y, hck⟩ : ∃ y, cb.getD k Cl.zero = y := ⟨_, rfl⟩
          dsimp only [penc]
          rw [hck]
          obtain ⟨n, s, a, b, g, t, d, e⟩ := y
          dsimp only
          gi_wp2
          have h3 := HSZ.out
          have h5 := hI.2.2.2.2.2
          have h6 := hB0.size
          refine hK _ _ ((KeepsOthers.alloc _ _).from _) (KP.of_below (by omega) ((Below.refl _ W).alloc (Nat.le_refl _) _)) ((JoinI.own (B9 := W0.heap.size) hB0.size hB0.size).from.alloc _ hI) ⟨W.heap.size, ?_,?_⟩
          · unfold placeA; rw [hck]; exact heap_alloc_new W _
          · dsimp only; unfold placeA; rw [hck]; rfl
        case body =>
          rintro q pre k a' W ⟨hgW, hSW, hAW, hZW, hw, hs2⟩ ⟨g9, hpq, rfl⟩ ⟨rfl, hlt⟩
          obtain ⟨k, hkp⟩ : ∃ k, pre.length = k := ⟨_, rfl⟩
          rw [hkp] at hlt hpq hgW ⊢
          unfold placeA at hpq
          dsimp only [placeA]
          have hlk : k < (zipN ca cb k).length := by rw [zipN_len]; omega
          have hkm : (k : Int) < (mb : Int) := by omega
          have hkc : (k : Int) < (capa : Int) := by omega
          obtain ⟨bk, off, rfl, hat⟩ := hla.at hlt
          have hzg := zipN_get ca cb k (by omega) k
          rw [if_neg (by omega)] at hzg
          have hzs : zipN ca cb (k + 1) = (zipN ca cb k).set k (joinC [ca.getD k Cl.zero, cb.getD k Cl.zero]) := rfl
          obtain ⟨⟨nm, pk⟩, hgk⟩ : ∃ y, gs.getD k ([], 0) = y := ⟨_, rfl⟩
          obtain ⟨y, hck⟩ : ∃ y, cb.getD k Cl.zero = y := ⟨_, rfl⟩
          obtain ⟨z, hdk⟩ : ∃ y, ca.getD k Cl.zero = y := ⟨_, rfl⟩
          rw [hgk, hck] at hpq ⊢
          rw [hdk] at hat hzg
          rw [hdk, hck] at hzs
          obtain ⟨n, s, a, b, g, t, d, e⟩ := y
          obtain ⟨n', s', a', b', g', t', d', e'⟩ := z
          obtain ⟨y, hj⟩ : ∃ y, joinC [⟨n', s', a', b', g', t', d', e'⟩, ⟨n, s, a, b, g, t, d, e⟩] = y := ⟨_, rfl⟩
          rw [hj] at hzs
          obtain ⟨n9, s9, a9, b9, g9b, t9, d9, e9⟩ := y
          dsimp only at hpq ⊢
          have HJ9 := Lib.hid hj
          have HZG := Lib.hid hzg
          have HZN := Lib.hid hzs
          have HPW := Lib.hid (fun W1 (h : Below W.heap.size W W1) => hat W1 (hw.trans (h.mono hw.size)))
          have HSW := Lib.hid (fun W1 (h : Below W.heap.size W W1) => row_cells (heap_below hSW h))
          have HAW := Lib.hid (fun W1 (h : Below W.heap.size W W1) => row_cells (heap_below hAW h))
          have HQW := Lib.hid (fun W1 (h : Below W.heap.size W W1) => And.intro (show W1.cell? ⟨g9, 0, none⟩ = some (.int .i64 (k : Int)) by rw [cell_of_row _ g9 0 _ _ (0, 0) (heap_below hpq h)]; rfl) (place_cells (heap_below hpq h)))
          have HH := Lib.hid (And.intro hgW (And.intro hSW (And.intro hAW (And.intro hZW (And.intro hw hs2)))))
          clear hat hj hgk hck hdk hzg hzs hgW hSW hAW hZW hw hs2 hpq
          gi_wp2_with fail
          refine wpIn_region_flow (fun x y => Below x.heap.size x y) 15 [none,none,none,none,none,none,none,none,none,none,none,none,none,none,none,none,none,none,none,none,none,none,none,none,none,none,none,none,none,none,none,none,none,none,none,none,none,none,none, some 0, some 1, some 2, some 3, some 4, some 5, some 6, some 7, some 8, some 9, some 10, some 11, some 12, some 13, some 14, none] (fun i => [undef,undef,undef,undef,undef,undef,undef,undef,undef,undef,undef,undef,undef,undef,undef].getD i undef) [(fun v _ => v = .pointer (some ⟨S, 1, none⟩)), (fun v _ => v = .slice (some ⟨gg, 0, none⟩) mb mb), (fun v _ => v = .pointer (some ⟨g9, 0, none⟩)), (fun v _ => v = .int .i64 (k : Int)), (fun v _ => v = .pointer (some ⟨B, 1, none⟩)), (fun v _ => v = .slice (some ⟨bk, off, none⟩) mb capa), (fun v _ => v = .pointer (some ⟨g9, 0, none⟩)), (fun v _ => v = .int .i64 (k : Int)), (fun v _ => v = .pointer (some ⟨bk, off + k * 8, none⟩)), (fun v _ => v = .agg #[.int .i64 n', .int .i64 s', .int .i64 a', .int .i64 b', .bool g', .string (text t'), .int .i64 d', .int .i64 e']), (fun v _ => v = .pointer (some ⟨g9, 2, none⟩)), (fun v _ => v = .agg #[.int .i64 n, .int .i64 s, .int .i64 a, .int .i64 b, .bool g, .string (text t), .int .i64 d, .int .i64 e]), (ClsV [⟨n', s', a', b', g', t', d', e'⟩, ⟨n, s, a, b, g, t, d, e⟩]), (fun v _ => v = .agg #[.int .i64 n9, .int .i64 s9, .int .i64 a9, .int .i64 b9, .bool g9b, .string (text t9), .int .i64 d9, .int .i64 e9]), (fun v _ => v = .pointer (some ⟨gg, k * 8, none⟩))] (fun _ => False) (by kernel_rfl) (by kernel_rfl) (by kernel_rfl) rfl rfl rfl (fun a b c h1 h2 => h1.trans (h2.mono h1.size)) ⟨rfl, rfl, rfl, Nat.le_refl _, fun _ _ => rfl⟩ ?_ ?_ ?_
          · intro g hg v X Y hX hY hv
            simp only [List.mem_cons, List.not_mem_nil, or_false] at hg
            rcases hg with rfl | rfl | rfl | rfl | rfl | rfl | rfl | rfl | rfl | rfl | rfl | rfl | rfl | rfl | rfl
            all_goals first
              | exact hv
              | exact hv.kept hY
          · simp only [flowOpsI, List.take_succ_cons, List.take_zero, and_true]
            refine ⟨?_,?_,?_,?_,?_,?_,?_,?_,?_,?_,?_,?_,?_,?_,?_⟩
            · intro xs W1 hW hn
              simp only [flowAct, zwc, zwn]
              gi_wp2_with (fail)
              exact ⟨rfl, _, rfl, Below.refl _ _, rfl, fun h => h.elim⟩
            · intro xs W1 hW hn
              obtain ⟨-, f1, -⟩ := HSW.out W1 hW
              simp [flowNeeds, Region.binds] at hn
              simp only [flowAct, zwc, zwn]
              try simp only [hn]
              gi_wp2_with (fail)
              exact ⟨rfl, _, rfl, Below.refl _ _, rfl, fun h => h.elim⟩
            · intro xs W1 hW hn
              simp only [flowAct, zwc, zwn]
              gi_wp2_with (fail)
              exact ⟨rfl, _, rfl, Below.refl _ _, rfl, fun h => h.elim⟩
            · intro xs W1 hW hn
              obtain ⟨c, c0, c1, c2, c3, c4, c5, c6, c7⟩ := HQW.out W1 hW
              simp [flowNeeds, Region.binds] at hn
              simp only [flowAct, zwc, zwn]
              try simp only [hn]
              gi_wp2_with (fail)
              exact ⟨rfl, _, rfl, Below.refl _ _, rfl, fun h => h.elim⟩
            · intro xs W1 hW hn
              simp only [flowAct, zwc, zwn]
              gi_wp2_with (fail)
              exact ⟨rfl, _, rfl, Below.refl _ _, rfl, fun h => h.elim⟩
            · intro xs W1 hW hn
              obtain ⟨-, f2, -⟩ := HAW.out W1 hW
              simp [flowNeeds, Region.binds] at hn
              simp only [flowAct, zwc, zwn]
              try simp only [hn]
              gi_wp2_with (fail)
              exact ⟨rfl, _, rfl, Below.refl _ _, rfl, fun h => h.elim⟩
            · intro xs W1 hW hn
              simp only [flowAct, zwc, zwn]
              gi_wp2_with (fail)
              exact ⟨rfl, _, rfl, Below.refl _ _, rfl, fun h => h.elim⟩
            · intro xs W1 hW hn
              obtain ⟨c, c0, c1, c2, c3, c4, c5, c6, c7⟩ := HQW.out W1 hW
              simp [flowNeeds, Region.binds] at hn
              simp only [flowAct, zwc, zwn]
              try simp only [hn]
              gi_wp2_with (fail)
              exact ⟨rfl, _, rfl, Below.refl _ _, rfl, fun h => h.elim⟩
            · intro xs W1 hW hn
              simp [flowNeeds, Region.binds] at hn
              simp only [flowAct, zwc, zwn]
              try simp only [hn]
              gi_wp2_with (fail)
              exact ⟨rfl, _, rfl, Below.refl _ _, rfl, fun h => h.elim⟩
            · intro xs W1 hW hn
              obtain ⟨p0, p1, p2, p3, p4, p5, p6, p7⟩ := HPW.out W1 hW
              simp only at p0 p1 p2 p3 p4 p5 p6 p7
              simp [flowNeeds, Region.binds] at hn
              simp only [flowAct, zwc, zwn]
              try simp only [hn]
              gi_wp2_with (fail)
              exact ⟨rfl, _, rfl, Below.refl _ _, rfl, fun h => h.elim⟩
            · intro xs W1 hW hn
              simp only [flowAct, zwc, zwn]
              gi_wp2_with (fail)
              exact ⟨rfl, _, rfl, Below.refl _ _, rfl, fun h => h.elim⟩
            · intro xs W1 hW hn
              obtain ⟨c, c0, c1, c2, c3, c4, c5, c6, c7⟩ := HQW.out W1 hW
              simp [flowNeeds, Region.binds] at hn
              simp only [flowAct, zwc, zwn]
              try simp only [hn]
              gi_wp2_with (fail)
              exact ⟨rfl, _, rfl, Below.refl _ _, rfl, fun h => h.elim⟩
            · intro xs W1 hW hn
              simp [flowNeeds, Region.binds] at hn
              simp only [flowAct, zwc, zwn]
              simp only [hn]
              gi_wp2_with (fail)
              exact ⟨rfl, _, rfl, alloc_below _ _, ⟨_, _, _, rfl, cls2 _ _ _ _ _ _ _ _ _ _ _ _ _ _ _ _ _⟩, fun h => h.elim⟩
            · intro xs W1 hW hn
              simp [flowNeeds, Region.binds] at hn
              obtain ⟨a8, n8, k8, hv8, hc8⟩ := hn
              have HJJ := Lib.hid (join_c hc8)
              rw [HJ9.out] at HJJ
              clear hc8
              simp only [flowAct, zwc, zwn]
              simp only [hv8]
              gi_wp2_with (fail)
              refine ⟨trivial, (CallsIn.inRound q (callsIn_wide.2 HJJ.out)).mono ?_⟩
              rintro e8 w9 ⟨rfl, hb9⟩
              try gi_wp2_with (fail)
              exact ⟨rfl, _, rfl, hb9, rfl, fun h => h.elim⟩
            · intro xs W1 hW hn
              simp [flowNeeds, Region.binds] at hn
              simp only [flowAct, zwc, zwn]
              try simp only [hn]
              gi_wp2_with (fail)
              exact ⟨rfl, _, rfl, Below.refl _ _, rfl, fun h => h.elim⟩
          · intro xs W1 hW hall hfr
            clear hfr
            simp only [flowAll, and_true, Nat.zero_add, Nat.reduceAdd] at hall
            obtain ⟨-,-,-,-,-,-,-,-,-,-,-,-,-, y13, y14⟩ := hall
            simp only [flowAct, zwc, zwn, List.drop_succ_cons, List.drop_zero]
            simp only [y13, y14]
            obtain ⟨hgW0, hSW0, hAW0, hZW0, hw0, hs0⟩ := HH.out
            have hgW := heap_below hgW0 hW
            have hq : ∀ j, j < 8 → W1.cell? ⟨gg, k * 8 + j, none⟩ = ((zipN ca cb k).getD k Cl.zero).arr[j]? := fun j hj => by
              rw [cell_of_row W1 gg _ _ _ (0, 0) hgW, List.getElem?_toArray, cCells_get (zipN ca cb k) k j hlk hj]
            rw [HZG.out] at hq
            have q0 : W1.cell? ⟨gg, k * 8, none⟩ = some (.int .i64 n') := hq 0 (by omega)
            have q1 : W1.cell? ⟨gg, k * 8 + 1, none⟩ = some (.int .i64 s') := hq 1 (by omega)
            have q2 : W1.cell? ⟨gg, k * 8 + 2, none⟩ = some (.int .i64 a') := hq 2 (by omega)
            have q3 : W1.cell? ⟨gg, k * 8 + 3, none⟩ = some (.int .i64 b') := hq 3 (by omega)
            have q4 : W1.cell? ⟨gg, k * 8 + 4, none⟩ = some (.bool g') := hq 4 (by omega)
            have q5 : W1.cell? ⟨gg, k * 8 + 5, none⟩ = some (.string (text t')) := hq 5 (by omega)
            have q6 : W1.cell? ⟨gg, k * 8 + 6, none⟩ = some (.int .i64 d') := hq 6 (by omega)
            have q7 : W1.cell? ⟨gg, k * 8 + 7, none⟩ = some (.int .i64 e') := hq 7 (by omega)
            have hqf : ∀ j, W1.frozen? ⟨gg, j, none⟩ = false := fun j => frozen_of_row _ gg j _ _ hgW
            have hgs := HGS.out
            have hzs := HZS.out
            have hsl := HSL.out
            have h3 := HSZ.out
            have h6 := hB0.size
            have hbe := HBe.out
            have hgb := HGB.out
            have hput := cells_put hgW hlk n9 s9 a9 b9 g9b t9 d9 e9
            have hL : LeavesT 138 (fun j => j = gg) W0.heap.size W ((((((((W1.setCell ⟨gg, k * 8, none⟩ (.int .i64 n9)).setCell ⟨gg, k * 8 + 1, none⟩ (.int .i64 s9)).setCell ⟨gg, k * 8 + 2, none⟩ (.int .i64 a9)).setCell ⟨gg, k * 8 + 3, none⟩ (.int .i64 b9)).setCell ⟨gg, k * 8 + 4, none⟩ (.bool g9b)).setCell ⟨gg, k * 8 + 5, none⟩ (.string (text t9))).setCell ⟨gg, k * 8 + 6, none⟩ (.int .i64 d9)).setCell ⟨gg, k * 8 + 7, none⟩ (.int .i64 e9)) := (LeavesT.below hW).trans (leaves_put W1 gg k n9 s9 a9 b9 g9b t9 d9 e9)
            have hbP : Below w.heap.size W ((((((((W1.setCell ⟨gg, k * 8, none⟩ (.int .i64 n9)).setCell ⟨gg, k * 8 + 1, none⟩ (.int .i64 s9)).setCell ⟨gg, k * 8 + 2, none⟩ (.int .i64 a9)).setCell ⟨gg, k * 8 + 3, none⟩ (.int .i64 b9)).setCell ⟨gg, k * 8 + 4, none⟩ (.bool g9b)).setCell ⟨gg, k * 8 + 5, none⟩ (.string (text t9))).setCell ⟨gg, k * 8 + 6, none⟩ (.int .i64 d9)).setCell ⟨gg, k * 8 + 7, none⟩ (.int .i64 e9)) := cells_put_below (k := k) (hW.mono (show w.heap.size ≤ W.heap.size by omega)) hgb n9 s9 a9 b9 g9b t9 d9 e9
            have HR := Lib.hid (show RoundPost W0.heap.size (KP w.heap.size (two9 G0 (G0 + 1))) (fun _ => True) (JoinI ca cb (.cells #[.string tka, .slice (some ⟨gg, 0, none⟩) mb mb] 30 (0, 0)) (.cells #[.string tka, .slice (some ⟨bk, off, none⟩) mb capa] 30 (0, 0)) (.cells #[.string ⟨#[]⟩, .slice none 0 0] 30 (0, 0)) w.heap.size gg S B (B + 1 + 1) W0.heap.size w) (fun _ _ _ => False) pre k W .normal { tmps := #[], defers := [] } ((((((((W1.setCell ⟨gg, k * 8, none⟩ (.int .i64 n9)).setCell ⟨gg, k * 8 + 1, none⟩ (.int .i64 s9)).setCell ⟨gg, k * 8 + 2, none⟩ (.int .i64 a9)).setCell ⟨gg, k * 8 + 3, none⟩ (.int .i64 b9)).setCell ⟨gg, k * 8 + 4, none⟩ (.bool g9b)).setCell ⟨gg, k * 8 + 5, none⟩ (.string (text t9))).setCell ⟨gg, k * 8 + 6, none⟩ (.int .i64 d9)).setCell ⟨gg, k * 8 + 7, none⟩ (.int .i64 e9)) from
              ⟨hL.keeps (by rintro j rfl; omega), ⟨hbP, fun j o hj ho => hL.same j o ho (by rcases hj with rfl | rfl <;> omega) (.inl (by rcases hj with rfl | rfl <;> omega))⟩, trivial, ⟨by rw [List.length_append, List.length_singleton, hkp, HZN.out]; exact hput, hL.same _ _ hSW0 (by omega) (.inl (by omega)), hL.same _ _ hAW0 (by omega) (.inl (by omega)), hL.same _ _ hZW0 (by omega) (.inl (by omega)), hw0.trans hbP, Nat.le_trans hs0 hL.size⟩⟩)
            clear hq hput hL hbP hgW hgW0 hSW0 hAW0 hZW0 hw0 hs0 hgs hzs hsl h3 h6 hbe hgb
            gi_wp2
            exact HR.out

        case done =>
          rintro D xs W hD hxs ⟨hgW, hSW, hAW, hZW, hw, hs2⟩ hK
          rw [show xs.length = mb from hxs] at hgW
          obtain ⟨s0, s1, -⟩ := row_cells hSW
          obtain ⟨z0, z1, zf⟩ := row_cells hZW
          have HDB := Lib.hid (show S < D by have := HSZ.out; have := HSL.out; omega)
          have HGS2 := Lib.hid HGS.out
          have hDz : D ≠ B + 1 + 1 := by have := HDB.out; omega
          have hDg : D ≠ gg := by have := HDB.out; omega
          have hgz : gg ≠ B + 1 + 1 := by omega
          have hkX : ((W.setCell ⟨B + 1 + 1, 0, none⟩ (.string tka)).setCell ⟨B + 1 + 1, 1, none⟩ (.slice (some ⟨gg, 0, none⟩) mb mb)).heap[D]? = some (.deferred (some [])) :=
            (Below.heap_setCell _ ⟨B + 1 + 1, 1, none⟩ _ D hDz).trans ((Below.heap_setCell _ ⟨B + 1 + 1, 0, none⟩ (.string tka) D hDz).trans hK)
          have hgX := (Below.heap_setCell (W.setCell ⟨B + 1 + 1, 0, none⟩ (.string tka)) ⟨B + 1 + 1, 1, none⟩ (.slice (some ⟨gg, 0, none⟩) mb mb) gg hgz).trans ((Below.heap_setCell W ⟨B + 1 + 1, 0, none⟩ (.string tka) gg hgz).trans hgW)
          have hwX := (hw.setCell (p := ⟨B + 1 + 1, 0, none⟩) (by have := HBe.out; simp; omega) (.string tka)).setCell (p := ⟨B + 1 + 1, 1, none⟩) (by have := HBe.out; simp; omega) (.slice (some ⟨gg, 0, none⟩) mb mb)
          have HKX := Lib.hid hkX
          have HFB := Lib.hid (hwX.trans (belowK_b (w := w) (Nat.le_refl _) _ D _ (.deferred none) (by have := HDB.out; have := HBe.out; omega) hkX rfl rfl))
          have HFG := Lib.hid ((World.putObj_heap_other (o := .deferred none) (show gg ≠ D from hDg.symm)).trans hgX)
          have HFZ := Lib.hid ((World.putObj_heap_other (o := .deferred none) (show B + 1 + 1 ≠ D from hDz.symm)).trans (row_set hZW tka (.slice (some ⟨gg, 0, none⟩) mb mb)))
          clear hgW hSW hAW hZW hw hs2 hK hkX hgX hwX hxs hDz hDg hgz
          go_wp2
          refine ⟨by simp, .inl ⟨_, _, rfl, run_takeDeferred HKX.out, ?_⟩⟩
          refine ⟨_, res_cell_tmp rfl _ _ (B + 1 + 1) 30 _ (0, 0) _ (.int .i64 0) rfl rfl HFZ.out Try.underlying30 rfl (by kernel_rfl), ?_⟩
          rw [HRR.out]
          exact ⟨_, by rw [HTK.out], by rw [hal]; exact own_lit HFG.out HGB.out (by rw [zipN_len]; exact hal) (by omega), HFB.out⟩
        case stop => exact fun D c pre W hD _ hf => hf.elim
    · have h1n : (RB != 0) = true := by simpa using h1
      have HRR := Lib.hid (show RV = ([], [], RB) by rw [HRV.out, if_neg (by simp), if_pos h1])
      clear h1
      go_wp2_with (go_at_call 65; (with_reducible refine (HGB.out _ HBb.out).mono ?_); rintro e9 w3 ⟨rfl, hb3⟩; have HB3 := Lib.hid (HBb.out.trans (hb3.mono HBb.out.size)); have HZ5 := Lib.hid (heap_below HZ4.out hb3); clear hb3 u0 u1; obtain ⟨z0, z1, zf⟩ := row_cells HZ5.out)
      exact ⟨_, res_cell_tmp rfl _ _ (B + 1 + 1) 30 _ (0, 0) _ (.int .i64 RB) rfl rfl (row_set HZ5.out ⟨#[]⟩ (.slice none 0 0)) Try.underlying30 rfl (by kernel_rfl), HBAD.out _ HRR.out _ HB3.out⟩
  · have h0n : (RA != 0) = true := by simpa using h0
    have HRR := Lib.hid (show RV = ([], [], RA) by rw [HRV.out, if_pos h0])
    clear h0
    go_wp2_with (go_at_call 65; (with_reducible refine (HGA.out _ HBa.out).mono ?_); rintro e9 w2 ⟨rfl, hb2⟩; have HB2 := Lib.hid (HBa.out.trans (hb2.mono HBa.out.size)); have HZ3 := Lib.hid (heap_below HZ2.out hb2); clear hb2 u0 u1; obtain ⟨z0, z1, zf⟩ := row_cells HZ3.out)
    exact ⟨_, res_cell_tmp rfl _ _ (B + 1 + 1) 30 _ (0, 0) _ (.int .i64 RA) rfl rfl (row_set HZ3.out ⟨#[]⟩ (.slice none 0 0)) Try.underlying30 rfl (by kernel_rfl), HBAD.out _ HRR.out _ HB2.out⟩
end Go.Proofs.Yteffbibmfpdenaa
end

section
namespace Go.Proofs.Yteffbibmfpdenaa
open Go.RowKit Go Go.Sort
set_option linter.unusedVariables false
set_option maxRecDepth 20000

theorem list_getD {l m : List Cl} (h : l.length = m.length) (hg : ∀ i, i < l.length → l.getD i Cl.zero = m.getD i Cl.zero) : l = m := by
  apply List.ext_getElem h
  intro i h1 h2
  have := hg i h1
  simpa [List.getD_eq_getElem?_getD, List.getElem?_eq_getElem h1, List.getElem?_eq_getElem h2] using this
theorem zip_at (ca cb : List Cl) {i : Nat} (hi : i < ca.length) : (zipN ca cb ca.length).getD i Cl.zero = joinC [ca.getD i Cl.zero, cb.getD i Cl.zero] := by
  rw [zipN_get ca cb i hi, if_pos hi]
/-- What is asked of each cell of a good row. -/
theorem good_at {gs : List Grp} {k : List UInt8} {cs : List Cl} (h : rgoodS gs k cs = 0) {i : Nat} (hi : i < cs.length) : (cs.getD i Cl.zero).good (gs.getD i ([], 0)).2 = true := by
  obtain ⟨_, _, h3, h4⟩ := rgood_inv h
  exact h4 i (by omega)
theorem zip_good {gs : List Grp} {k : List UInt8} {ca cb : List Cl} (ha : rgoodS gs k ca = 0) (hb : rgoodS gs k cb = 0) : rgoodS gs k (zipN ca cb ca.length) = 0 := by
  obtain ⟨h1, h2, h3, h4⟩ := rgood_inv ha
  obtain ⟨_, _, h5, h6⟩ := rgood_inv hb
  refine rgood_yes h1 h2 (by rw [zipN_len]; exact h3) fun j hj => ?_
  show ((zipN ca cb ca.length).getD j Cl.zero).good _ = true
  rw [zip_at ca cb (by omega)]
  refine good_join (pgood_pol h1 j hj) fun c hc => ?_
  simp only [List.mem_cons, List.not_mem_nil, or_false] at hc
  rcases hc with rfl | rfl
  · exact h4 j hj
  · exact h6 j hj
theorem set_getD (cs : List Cl) (i j : Nat) (x : Cl) : (cs.set i x).getD j Cl.zero = if i = j ∧ i < cs.length then x else cs.getD j Cl.zero := by
  simp only [List.getD_eq_getElem?_getD, List.getElem?_set]
  by_cases e : i = j
  · subst e
    by_cases h : i < cs.length
    · simp [h]
    · simp [h]
  · simp [e]
theorem zip_comm {gs : List Grp} {k : List UInt8} {ca cb : List Cl} (ha : rgoodS gs k ca = 0) (hb : rgoodS gs k cb = 0) : zipN ca cb ca.length = zipN cb ca cb.length := by
  have h3 := (rgood_inv ha).2.2.1
  have h5 := (rgood_inv hb).2.2.1
  refine list_getD (by rw [zipN_len, zipN_len]; omega) fun i hi => ?_
  rw [zipN_len] at hi
  rw [zip_at ca cb hi, zip_at cb ca (by omega)]
  have x1 := good_at ha hi
  have x2 := good_at hb (show i < cb.length by omega)
  exact (lattice x1 x2 x1).1
theorem zip_self {gs : List Grp} {k : List UInt8} {ca : List Cl} (ha : rgoodS gs k ca = 0) : zipN ca ca ca.length = ca := by
  refine list_getD (zipN_len ca ca ca.length) fun i hi => ?_
  rw [zipN_len] at hi
  rw [zip_at ca ca hi]
  have x1 := good_at ha hi
  exact (lattice x1 x1 x1).2.2.2.1
theorem zip_assoc {gs : List Grp} {k : List UInt8} {ca cb cc : List Cl} (ha : rgoodS gs k ca = 0) (hb : rgoodS gs k cb = 0) (hc : rgoodS gs k cc = 0) :
    zipN (zipN ca cb ca.length) cc (zipN ca cb ca.length).length = zipN ca (zipN cb cc cb.length) ca.length := by
  have h3 := (rgood_inv ha).2.2.1
  have h5 := (rgood_inv hb).2.2.1
  have h7 := (rgood_inv hc).2.2.1
  refine list_getD (by rw [zipN_len, zipN_len, zipN_len]) fun i hi => ?_
  rw [zipN_len, zipN_len] at hi
  rw [zip_at _ cc (by rw [zipN_len]; exact hi), zip_at ca cb hi, zip_at ca (zipN cb cc cb.length) hi, zip_at cb cc (by omega)]
  have x1 := good_at ha hi
  have x2 := good_at hb (show i < cb.length by omega)
  have x3 := good_at hc (show i < cc.length by omega)
  exact (lattice x1 x2 x3).2.1
end Go.Proofs.Yteffbibmfpdenaa
end

section
namespace Go.Proofs.Yteffbibmfpdenaa
open Go.RowKit Go Go.Sort
set_option linter.unusedVariables false
set_option maxRecDepth 20000

/-- A write: key, group, whether it is gone, value. -/
structure Wr where
  k : List UInt8
  i : Int
  g : Bool
  v : List UInt8
def Wr.zero : Wr := ⟨[], 0, false, []⟩
def Wr.arr (c : Wr) : Array Value := #[.string (text c.k), .int .i64 c.i, .bool c.g, .string (text c.v)]
theorem wr_size (c : Wr) : c.arr.size = 4 := rfl
/-- A list of writes in memory; one of the call's own. -/
abbrev Wrs := Ls 4 Wr.arr Wr.zero
theorem wr_at {W : World} {b o : Nat} {c : Wr} (h : ∀ j v, c.arr[j]? = some v → W.cell? ⟨b, o + j, none⟩ = some v) : W.cell? ⟨b, o, none⟩ = some (.string (text c.k)) ∧ W.cell? ⟨b, o + 1, none⟩ = some (.int .i64 c.i) ∧ W.cell? ⟨b, o + 2, none⟩ = some (.bool c.g) ∧ W.cell? ⟨b, o + 3, none⟩ = some (.string (text c.v)) :=
  ⟨h 0 _ rfl, h 1 _ rfl, h 2 _ rfl, h 3 _ rfl⟩
theorem Wrs.place {w : World} {a : Option Addr} {n cap : Nat} {l : List Wr} (h : Wrs w a n cap l) {k : Nat} (hk : k < n) : ∃ b off, a = some ⟨b, off, none⟩ ∧ ∀ W, Below w.heap.size w W → W.cell? ⟨b, off + k * 4, none⟩ = some (.string (text (l.getD k Wr.zero).k)) ∧ W.cell? ⟨b, off + k * 4 + 1, none⟩ = some (.int .i64 (l.getD k Wr.zero).i) ∧ W.cell? ⟨b, off + k * 4 + 2, none⟩ = some (.bool (l.getD k Wr.zero).g) ∧ W.cell? ⟨b, off + k * 4 + 3, none⟩ = some (.string (text (l.getD k Wr.zero).v)) := by
  obtain ⟨b, off, rfl, hat⟩ := h.at hk
  exact ⟨b, off, rfl, fun W hb => wr_at (hat W hb)⟩
theorem wr_cells {W : World} {q : Nat} {k : List UInt8} {i : Int} {g : Bool} {v : List UInt8} (h : W.heap[q]? = some (.cells #[.string (text k), .int .i64 i, .bool g, .string (text v)] 112 (0, 0))) : W.cell? ⟨q, 0, none⟩ = some (.string (text k)) ∧ W.cell? ⟨q, 1, none⟩ = some (.int .i64 i) ∧ W.cell? ⟨q, 2, none⟩ = some (.bool g) ∧ W.cell? ⟨q, 3, none⟩ = some (.string (text v)) := by
  refine ⟨?_,?_,?_,?_⟩ <;> (rw [cell_of_row _ q _ _ _ (0, 0) h]; rfl)
/-- P12's order of writes: by key, then by group. -/
def aheadS (a b : Wr) : Bool := if (a.k == b.k) = false then Op.bytesLess a.k b.k else decide (a.i < b.i)

set_option maxHeartbeats 3200000 in
theorem rahead_c (k : List UInt8) (i : Int) (g : Bool) (v : List UInt8) (k' : List UInt8) (i' : Int) (g' : Bool) (v' : List UInt8) (w : World) : Calls Try.prog 116 #[.agg #[.string (text k), .int .i64 i, .bool g, .string (text v)], .agg #[.string (text k'), .int .i64 i', .bool g', .string (text v')]] w (Tells (.bool (aheadS ⟨k, i, g, v⟩ ⟨k', i', g', v'⟩)) w) := by
  have hp := heap_below (heap_alloc_new w (.cells #[.string (text k), .int .i64 i, .bool g, .string (text v)] 112)) (alloc_below (w.alloc (.cells #[.string (text k), .int .i64 i, .bool g, .string (text v)] 112)) (.cells #[.string (text k'), .int .i64 i', .bool g', .string (text v')] 112))
  have hq := heap_alloc_new (w.alloc (.cells #[.string (text k), .int .i64 i, .bool g, .string (text v)] 112)) (.cells #[.string (text k'), .int .i64 i', .bool g', .string (text v')] 112)
  simp only [World.size_alloc] at hq
  have HB := Lib.hid ((alloc_below w (.cells #[.string (text k), .int .i64 i, .bool g, .string (text v)] 112)).alloc (by simp) (.cells #[.string (text k'), .int .i64 i', .bool g', .string (text v')] 112))
  have HV := Lib.hid (show aheadS ⟨k, i, g, v⟩ ⟨k', i', g', v'⟩ = if (k == k') = false then Op.bytesLess k k' else decide (i < i') from rfl)
  obtain ⟨r, hr⟩ : ∃ r, aheadS ⟨k, i, g, v⟩ ⟨k', i', g', v'⟩ = r := ⟨_, rfl⟩
  rw [hr] at HV ⊢
  have hte := text_eqb k k'
  have htl := text_lss k k'
  obtain ⟨p0, p1, -⟩ := wr_cells hp
  obtain ⟨q0, q1, -⟩ := wr_cells hq
  obtain ⟨u, hu⟩ : ∃ u, text k = u := ⟨_, rfl⟩
  obtain ⟨u', hu'⟩ : ∃ u, text k' = u := ⟨_, rfl⟩
  simp only [hu, hu'] at hte htl HB p0 p1 q0 q1 ⊢
  clear hp hq hr hu hu'
  cases q3 : (k == k') with
  | false =>
    rw [q3] at HV hte
    obtain ⟨q5, hq5⟩ : ∃ q, Op.bytesLess k k' = q := ⟨_, rfl⟩
    rw [hq5] at HV htl
    clear q3 hq5
    go_enter Try.func116, Try.ntmps116
    go_wp2
    go_ret
    exact ⟨by rw [HV.out]; rfl, HB.out⟩
  | true =>
    rw [q3] at HV hte
    clear q3 htl
    go_enter Try.func116, Try.ntmps116
    go_wp2
    go_ret
    exact ⟨by rw [HV.out]; rfl, HB.out⟩
end Go.Proofs.Yteffbibmfpdenaa
end

section
namespace Go.Proofs.Yteffbibmfpdenaa
open Go.RowKit Go Go.Sort
set_option linter.unusedVariables false
set_option maxRecDepth 20000

/-- Which write may be, by a schema of n groups. -/
def mayS (n : Nat) (c : Wr) : Bool := decide (keyS c.k = 0) && (decide (0 ≤ c.i) && (decide (c.i < (n : Int)) && (decide (c.v.length ≤ 64) && (!c.g || c.v == []))))
set_option maxHeartbeats 3200000 in
theorem rwrite_c {w : World} {x : Option Addr} {n1 cap : Nat} (hle : n1 ≤ cap) (hmax : cap ≤ 9223372036854775807) (k : List UInt8) (i : Int) (g : Bool) (v : List UInt8) (hk : k.length ≤ 9223372036854775807) (hvl : v.length ≤ 9223372036854775807) :
    Calls Try.prog 115 #[.slice x n1 cap, .agg #[.string (text k), .int .i64 i, .bool g, .string (text v)]] w (Tells (.bool (mayS n1 ⟨k, i, g, v⟩)) w) := by
  have hp := heap_alloc_new w (.cells #[.string (text k), .int .i64 i, .bool g, .string (text v)] 112)
  have HB := Lib.hid (alloc_below w (.cells #[.string (text k), .int .i64 i, .bool g, .string (text v)] 112))
  have HV0 := Lib.hid (show mayS n1 ⟨k, i, g, v⟩ = (decide (keyS k = 0) && (decide (0 ≤ i) && (decide (i < (n1 : Int)) && (decide (v.length ≤ 64) && (!g || v == []))))) from rfl)
  obtain ⟨r, hr⟩ : ∃ r, mayS n1 ⟨k, i, g, v⟩ = r := ⟨_, rfl⟩
  rw [hr] at HV0 ⊢
  have hkk := fun W => rkey_c k hk W
  have htn := text_nilb v
  have hsz : ((text v).size : Int) = (v.length : Int) := by rw [text_size]
  obtain ⟨p0, p1, p2, p3⟩ := wr_cells hp
  obtain ⟨K0, hK⟩ : ∃ z, keyS k = z := ⟨_, rfl⟩
  obtain ⟨vb, hvb⟩ : ∃ z, (v == []) = z := ⟨_, rfl⟩
  obtain ⟨vl, hvl2⟩ : ∃ z, v.length = z := ⟨_, rfl⟩
  obtain ⟨tv, htv⟩ : ∃ z, text v = z := ⟨_, rfl⟩
  obtain ⟨tk, htk⟩ : ∃ z, text k = z := ⟨_, rfl⟩
  simp only [hK, htk] at hkk
  rw [hK, hvb, hvl2] at HV0
  rw [hvb] at htn
  rw [hvl2] at hsz
  simp only [htv, htk] at htn hsz p0 p1 p2 p3 HB ⊢
  have HK := Lib.hid hkk
  clear hp hr hkk hK hvb hvl2 htv htk hk hvl
  by_cases h0 : K0 = 0
  · have h0e : (K0 == 0) = true := by simpa using h0
    by_cases h1 : 0 ≤ i
    · by_cases h2 : i < (n1 : Int)
      · by_cases h3 : vl ≤ 64
        · have h3i : (vl : Int) ≤ 64 := by omega
          cases g with
          | false =>
            have HV := Lib.hid (show r = true by rw [HV0.out]; simp [h0, h1, h2, h3])
            clear h0 HV0 htn
            go_enter Try.func115, Try.ntmps115
            go_wp2_with (go_at_call 96; (with_reducible refine (HK.out _).mono ?_); rintro e9 w9 ⟨rfl, rfl⟩)
            go_ret
            exact ⟨by rw [HV.out]; rfl, HB.out⟩
          | true =>
            have HV := Lib.hid (show r = vb by rw [HV0.out]; simp [h0, h1, h2, h3])
            clear h0 HV0
            cases vb with
            | true =>
              go_enter Try.func115, Try.ntmps115
              go_wp2_with (go_at_call 96; (with_reducible refine (HK.out _).mono ?_); rintro e9 w9 ⟨rfl, rfl⟩)
              go_ret
              exact ⟨by rw [HV.out]; rfl, HB.out⟩
            | false =>
              go_enter Try.func115, Try.ntmps115
              go_wp2_with (go_at_call 96; (with_reducible refine (HK.out _).mono ?_); rintro e9 w9 ⟨rfl, rfl⟩)
              go_ret
              exact ⟨by rw [HV.out]; rfl, HB.out⟩
        · have h3i : ¬ (vl : Int) ≤ 64 := by omega
          have HV := Lib.hid (show r = false by rw [HV0.out]; simp [h3])
          clear h0 HV0 htn
          go_enter Try.func115, Try.ntmps115
          go_wp2_with (go_at_call 96; (with_reducible refine (HK.out _).mono ?_); rintro e9 w9 ⟨rfl, rfl⟩)
          go_ret
          exact ⟨by rw [HV.out]; rfl, HB.out⟩
      · have HV := Lib.hid (show r = false by rw [HV0.out]; simp [h2])
        clear h0 HV0 htn
        go_enter Try.func115, Try.ntmps115
        go_wp2_with (go_at_call 96; (with_reducible refine (HK.out _).mono ?_); rintro e9 w9 ⟨rfl, rfl⟩)
        go_ret
        exact ⟨by rw [HV.out]; rfl, HB.out⟩
    · have HV := Lib.hid (show r = false by rw [HV0.out]; simp [h1])
      clear h0 HV0 htn
      go_enter Try.func115, Try.ntmps115
      go_wp2_with (go_at_call 96; (with_reducible refine (HK.out _).mono ?_); rintro e9 w9 ⟨rfl, rfl⟩)
      go_ret
      exact ⟨by rw [HV.out]; rfl, HB.out⟩
  · have h0e : (K0 == 0) = false := by simpa using h0
    have HV := Lib.hid (show r = false by rw [HV0.out]; simp [h0])
    clear h0 HV0 htn
    go_enter Try.func115, Try.ntmps115
    go_wp2_with (go_at_call 96; (with_reducible refine (HK.out _).mono ?_); rintro e9 w9 ⟨rfl, rfl⟩)
    go_ret
    exact ⟨by rw [HV.out]; rfl, HB.out⟩
end Go.Proofs.Yteffbibmfpdenaa
end

section
namespace Go.Proofs.Yteffbibmfpdenaa
open Go.RowKit Go Go.Sort
set_option linter.unusedVariables false
set_option maxRecDepth 20000

/-- What of a change's head may not be. -/
def headBad (site seq n s a b : Int) (m : Nat) : Bool :=
  (site != 1 && site != 2) || decide (seq < 1) || decide (1099511627776 < seq) || !sgood n s || (s != site) || !vgood a b || ((if site = 1 then a else b) != seq) || decide ((m : Int) < 1) || decide (8 < (m : Int))
/-- What a guarded operation tells. -/
def vIf (b need : Bool) (v : Value) : Value := if b = need then v else undef
theorem vIf_tt (v : Value) : vIf true true v = v := rfl
theorem vIf_ff (v : Value) : vIf false false v = v := rfl
theorem vIf_tf (v : Value) : vIf true false v = undef := rfl
theorem vIf_ft (v : Value) : vIf false true v = undef := rfl
/-- Whether the write at a place may be there. -/
def wAt (n1 : Nat) (l : List Wr) (k : Nat) : Bool := mayS n1 (l.getD k Wr.zero) && (decide (k = 0) || aheadS (l.getD (k - 1) Wr.zero) (l.getD k Wr.zero))
def chgoodS (gs : List Grp) (site seq n s a b : Int) (l : List Wr) : Int := if ¬ pgoodS gs = 0 then pgoodS gs else if headBad site seq n s a b l.length = true then 120 else if (List.range l.length).all (wAt gs.length l) = true then 0 else 120
theorem ch_pol {gs : List Grp} {site seq n s a b : Int} {l : List Wr} (h : ¬ pgoodS gs = 0) : chgoodS gs site seq n s a b l = pgoodS gs := by unfold chgoodS; rw [if_pos h]
theorem ch_head {gs : List Grp} {site seq n s a b : Int} {l : List Wr} (h : pgoodS gs = 0) (h2 : headBad site seq n s a b l.length = true) : chgoodS gs site seq n s a b l = 120 := by unfold chgoodS; rw [if_neg (not_not_intro h), if_pos h2]
theorem ch_bad {gs : List Grp} {site seq n s a b : Int} {l : List Wr} (h : pgoodS gs = 0) (h2 : headBad site seq n s a b l.length = false) {k : Nat} (hk : k < l.length) (hb : wAt gs.length l k = false) : chgoodS gs site seq n s a b l = 120 := by
  unfold chgoodS
  rw [if_neg (not_not_intro h), if_neg (by rw [h2]; decide), if_neg]
  intro ha
  have := List.all_eq_true.1 ha k (List.mem_range.2 hk)
  rw [hb] at this
  cases this
theorem ch_yes {gs : List Grp} {site seq n s a b : Int} {l : List Wr} (h : pgoodS gs = 0) (h2 : headBad site seq n s a b l.length = false) (ha : ∀ k, k < l.length → wAt gs.length l k = true) : chgoodS gs site seq n s a b l = 0 := by
  unfold chgoodS
  rw [if_neg (not_not_intro h), if_neg (by rw [h2]; decide), if_pos]
  exact List.all_eq_true.2 fun k hk => ha k (List.mem_range.1 hk)
theorem ch_inv {gs : List Grp} {site seq n s a b : Int} {l : List Wr} (h : chgoodS gs site seq n s a b l = 0) : pgoodS gs = 0 ∧ headBad site seq n s a b l.length = false ∧ ∀ k, k < l.length → wAt gs.length l k = true := by
  unfold chgoodS at h
  by_cases h1 : pgoodS gs = 0
  · rw [if_neg (not_not_intro h1)] at h
    by_cases h2 : headBad site seq n s a b l.length = true
    · rw [if_pos h2] at h; cases h
    · rw [if_neg h2] at h
      by_cases h3 : (List.range l.length).all (wAt gs.length l) = true
      · exact ⟨h1, by simpa using h2, fun k hk => List.all_eq_true.1 h3 k (List.mem_range.2 hk)⟩
      · rw [if_neg h3] at h; cases h
  · rw [if_pos h1] at h; exact absurd h h1
theorem ch_cells {W : World} {q : Nat} {site seq n s a b : Int} {x2 : Option Addr} {m cap2 : Nat} (h : W.heap[q]? = some (.cells #[.int .i64 site, .int .i64 seq, .int .i64 n, .int .i64 s, .int .i64 a, .int .i64 b, .slice x2 m cap2] 95 (0, 0))) :
    W.cell? ⟨q, 0, none⟩ = some (.int .i64 site) ∧ W.cell? ⟨q, 1, none⟩ = some (.int .i64 seq) ∧ W.cell? ⟨q, 2, none⟩ = some (.int .i64 n) ∧ W.cell? ⟨q, 3, none⟩ = some (.int .i64 s) ∧ W.cell? ⟨q, 4, none⟩ = some (.int .i64 a) ∧ W.cell? ⟨q, 5, none⟩ = some (.int .i64 b) ∧ W.cell? ⟨q, 6, none⟩ = some (.slice x2 m cap2) := by
  refine ⟨?_,?_,?_,?_,?_,?_,?_⟩ <;> (rw [cell_of_row _ q _ _ _ (0, 0) h]; rfl)
theorem wr_mem {l : List Wr} {k : Nat} (h : k < l.length) : l.getD k Wr.zero ∈ l := by
  rw [List.getD_eq_getElem?_getD, List.getElem?_eq_getElem h]; exact List.getElem_mem _
/-- The writes are short. -/
def WShort (l : List Wr) : Prop := ∀ c ∈ l, c.k.length ≤ 9223372036854775807 ∧ c.v.length ≤ 9223372036854775807

set_option maxRecDepth 100000 in
set_option maxHeartbeats 12800000 in
theorem rchgood_c {w : World} {x x2 : Option Addr} {n1 cap m cap2 : Nat} {gs : List Grp} {l : List Wr} (hg : Grs w x n1 cap gs) (hs : ∀ g ∈ gs, g.1.length ≤ 9223372036854775807) (hl : Wrs w x2 m cap2 l) (hx : WShort l) (site seq n s a b : Int) :
    Calls Try.prog 88 #[.slice x n1 cap, .agg #[.int .i64 site, .int .i64 seq, .int .i64 n, .int .i64 s, .int .i64 a, .int .i64 b, .slice x2 m cap2]] w (Tells (.int .i64 (chgoodS gs site seq n s a b l)) w) := by
  have hgl := hg.len
  have hll := hl.len
  have hle1 := hg.le
  have hmax1 := hg.max
  have hle2 := hl.le
  have hmax2 := hl.max
  have HPG := Lib.hid (fun W (h : Below w.heap.size w W) => rpgood_c (hg.below h) hs)
  have HL := Lib.hid hl
  have HXS := Lib.hid hx
  have H0 := Lib.hid (@ch_pol gs site seq n s a b l)
  have H1 := Lib.hid (@ch_head gs site seq n s a b l)
  have H2 := Lib.hid (fun (h : pgoodS gs = 0) (h2 : headBad site seq n s a b l.length = false) (k : Nat) => @ch_bad gs site seq n s a b l h h2 k)
  have H3 := Lib.hid (@ch_yes gs site seq n s a b l)
  have HHB := Lib.hid (show headBad site seq n s a b m = ((site != 1 && site != 2) || decide (seq < 1) || decide (1099511627776 < seq) || !sgood n s || (s != site) || !vgood a b || ((if site = 1 then a else b) != seq) || decide ((m : Int) < 1) || decide (8 < (m : Int))) from rfl)
  obtain ⟨R, hR⟩ : ∃ z, chgoodS gs site seq n s a b l = z := ⟨_, rfl⟩
  obtain ⟨P0, hP⟩ : ∃ z, pgoodS gs = z := ⟨_, rfl⟩
  obtain ⟨HD, hHD⟩ : ∃ z, headBad site seq n s a b m = z := ⟨_, rfl⟩
  rw [hR, hP] at H0
  rw [hR, hP, hll, hHD] at H1
  rw [hR, hP, hll, hHD, hgl] at H2 H3
  rw [hHD] at HHB
  simp only [hP] at HPG
  rw [hR]
  have hr := heap_alloc_new w (.cells #[.int .i64 site, .int .i64 seq, .int .i64 n, .int .i64 s, .int .i64 a, .int .i64 b, .slice x2 m cap2] 95)
  have hb := alloc_below w (.cells #[.int .i64 site, .int .i64 seq, .int .i64 n, .int .i64 s, .int .i64 a, .int .i64 b, .slice x2 m cap2] 95)
  clear hR hP hHD hg hs hl hx
  go_enter Try.func88, Try.ntmps88
  go_upto_region 1 with (fail)
  obtain ⟨B, hB⟩ : ∃ q, w.heap.size = q := ⟨_, rfl⟩
  rw [hB] at hr ⊢
  clear hB
  generalize w.alloc (.cells #[.int .i64 site, .int .i64 seq, .int .i64 n, .int .i64 s, .int .i64 a, .int .i64 b, .slice x2 m cap2] 95) = W1 at *
  have HR1 := Lib.hid hr
  have HB1 := Lib.hid hb
  clear hr hb
  go_upto_region 2 with (go_at_call 62; (with_reducible refine (HPG.out _ HB1.out).mono ?_); rintro e9 w2 ⟨rfl, hb2⟩)
  have HB2 := Lib.hid (HB1.out.trans (hb2.mono HB1.out.size))
  have HR2 := Lib.hid (heap_below HR1.out hb2)
  clear hb2 HB1 HR1 HPG
  by_cases h0 : P0 = 0
  · subst h0
    have H1a := Lib.hid (H1.out (by first | rfl | trivial))
    have H2a := Lib.hid (H2.out (by first | rfl | trivial))
    have H3a := Lib.hid (H3.out (by first | rfl | trivial))
    have HCW := Lib.hid (fun W (h : Below w2.heap.size w2 W) => ch_cells (heap_below HR2.out h))
    have HSG := Lib.hid (fun W => rsgood_c n s W)
    have HVG := Lib.hid (fun W => rvgood_c a b W)
    obtain ⟨SG, hSG⟩ : ∃ z, sgood n s = z := ⟨_, rfl⟩
    obtain ⟨VG, hVG⟩ : ∃ z, vgood a b = z := ⟨_, rfl⟩
    rw [hSG, hVG] at HHB
    simp only [hSG] at HSG
    simp only [hVG] at HVG
    obtain ⟨q1, hq1⟩ : ∃ z, (site != 1) = z := ⟨_, rfl⟩
    obtain ⟨q2, hq2⟩ : ∃ z, (site != 2) = z := ⟨_, rfl⟩
    obtain ⟨q3, hq3⟩ : ∃ z, decide (seq < 1) = z := ⟨_, rfl⟩
    obtain ⟨q4, hq4⟩ : ∃ z, decide (1099511627776 < seq) = z := ⟨_, rfl⟩
    obtain ⟨q6, hq6⟩ : ∃ z, (s != site) = z := ⟨_, rfl⟩
    obtain ⟨q8, hq8⟩ : ∃ z, ((if site = 1 then a else b) != seq) = z := ⟨_, rfl⟩
    obtain ⟨q9, hq9⟩ : ∃ z, decide ((m : Int) < 1) = z := ⟨_, rfl⟩
    obtain ⟨q10, hq10⟩ : ∃ z, decide (8 < (m : Int)) = z := ⟨_, rfl⟩
    rw [hq1, hq2, hq3, hq4, hq6, hq8, hq9, hq10] at HHB
    obtain ⟨A, hA⟩ : ∃ z, (q1 && q2) = z := ⟨_, rfl⟩
    have HA9 := Lib.hid hA
    rw [hA] at HHB
    obtain ⟨Bb, hBb⟩ : ∃ z, (A || q3) = z := ⟨_, rfl⟩
    have HBb9 := Lib.hid hBb
    rw [hBb] at HHB
    obtain ⟨C, hC⟩ : ∃ z, (Bb || q4) = z := ⟨_, rfl⟩
    have HC9 := Lib.hid hC
    rw [hC] at HHB
    obtain ⟨D, hD⟩ : ∃ z, (C || !SG) = z := ⟨_, rfl⟩
    have HD9 := Lib.hid hD
    rw [hD] at HHB
    obtain ⟨E, hE⟩ : ∃ z, (D || q6) = z := ⟨_, rfl⟩
    have HE9 := Lib.hid hE
    rw [hE] at HHB
    obtain ⟨F, hF⟩ : ∃ z, (E || !VG) = z := ⟨_, rfl⟩
    have HF9 := Lib.hid hF
    rw [hF] at HHB
    obtain ⟨G, hG⟩ : ∃ z, (F || q8) = z := ⟨_, rfl⟩
    have HG9 := Lib.hid hG
    rw [hG] at HHB
    obtain ⟨H, hH⟩ : ∃ z, (G || q9) = z := ⟨_, rfl⟩
    have HH9 := Lib.hid hH
    rw [hH] at HHB
    have HI9 := Lib.hid HHB.out.symm
    have HSITE := Lib.hid (show F = false → ∃ (z : Nat) (VV : Int), site - 1 = (z : Int) ∧ z < 2 ∧ (VV != seq) = q8 ∧ -9223372036854775808 ≤ site - 1 ∧ site - 1 ≤ 9223372036854775807 ∧ ((z = 0 ∧ VV = a) ∨ (z = 1 ∧ VV = b)) from fun hFF => by
      have hA0 : A = false := by
        rw [← hF, ← hE, ← hD, ← hC, ← hBb] at hFF
        cases A with
        | false => rfl
        | true => simp at hFF
      rw [← hA] at hA0
      have : site = 1 ∨ site = 2 := by
        rw [← hq1, ← hq2] at hA0
        simp at hA0
        omega
      rcases this with rfl | rfl
      · exact ⟨0, a, by decide, by decide, by rw [← hq8]; rfl, by decide, by decide, .inl ⟨rfl, rfl⟩⟩
      · exact ⟨1, b, by decide, by decide, by rw [← hq8]; rfl, by decide, by decide, .inr ⟨rfl, rfl⟩⟩)
    clear HHB hA hBb hC hD hE hF hG hH
    obtain ⟨zz, VV, hzz⟩ : ∃ (z : Nat) (VV : Int), (F = false → site - 1 = (z : Int) ∧ z < 2 ∧ (VV != seq) = q8 ∧ -9223372036854775808 ≤ site - 1 ∧ site - 1 ≤ 9223372036854775807 ∧ ((z = 0 ∧ VV = a) ∨ (z = 1 ∧ VV = b))) := by
      cases hF : F with
      | true => exact ⟨0, 0, fun h => by cases h⟩
      | false =>
        obtain ⟨z, VV, h⟩ := HSITE.out hF
        exact ⟨z, VV, fun _ => h⟩
    have HZZ := Lib.hid hzz
    clear hzz HSITE hq8
    clear hSG hVG H0 H1 H2 H3
    go_upto_region 4 with (fail)
    refine wp_region_flow [none,none,none,none,none,none,none,none,none,none,none,none, some 0, some 1, some 2, some 3, some 4, some 5, some 6, some 7, some 8, some 9, some 10, some 11, some 12, some 13, some 14, some 15, some 16, some 17, some 18, some 19, some 20, some 21, some 22, some 23, some 24, some 25, some 26, some 27, some 28, some 29, some 30, some 31, some 32, some 33, some 34, some 35, some 36, some 37, some 38, some 39, some 40, some 41, some 42, some 43, some 44, some 45, some 46, some 47, some 48, some 49, some 50, some 51, some 52, some 53, some 54, some 55, some 56, some 57, some 58, some 59, some 60, none,none,none,none,none,none,none,none,none,none,none,none,none,none,none,none,none,none,none,none,none,none,none,none,none,none,none,none,none,none,none,none,none,none] (fun i => [undef,undef,undef,undef,undef,undef,undef,undef,undef,undef,undef,undef,undef,undef,undef,undef,undef,undef,undef,undef,undef,undef,undef,undef,undef,undef,undef,undef,undef,undef,undef,undef,undef,undef,undef,undef,undef,undef,undef,undef,undef,undef,undef,undef,undef,undef,undef,undef,undef,undef,undef,undef,undef,undef,undef,undef,undef,undef,undef,undef,undef].getD i undef) [(fun v _ => v = .pointer (some ⟨B, 0, none⟩)), (fun v _ => v = .int .i64 site), (fun v _ => v = .bool q1), (fun v _ => v = .bool q1), (fun v _ => v = vIf q1 true (.pointer (some ⟨B, 0, none⟩))), (fun v _ => v = vIf q1 true (.int .i64 site)), (fun v _ => v = vIf q1 true (.bool q2)), (fun v _ => v = .bool A), (fun v _ => v = .bool A), (fun v _ => v = vIf A false (.pointer (some ⟨B, 1, none⟩))), (fun v _ => v = vIf A false (.int .i64 seq)), (fun v _ => v = vIf A false (.bool q3)), (fun v _ => v = .bool Bb), (fun v _ => v = .bool Bb), (fun v _ => v = vIf Bb false (.pointer (some ⟨B, 1, none⟩))), (fun v _ => v = vIf Bb false (.int .i64 seq)), (fun v _ => v = vIf Bb false (.bool q4)), (fun v _ => v = .bool C), (fun v _ => v = .bool C), (fun v _ => v = vIf C false (.pointer (some ⟨B, 2, none⟩))), (fun v _ => v = vIf C false (.agg #[.int .i64 n, .int .i64 s])), (fun v _ => v = vIf C false (.bool SG)), (fun v _ => v = vIf C false (.bool (!SG))), (fun v _ => v = .bool D), (fun v _ => v = .bool D), (fun v _ => v = vIf D false (.pointer (some ⟨B, 2, none⟩))), (fun v _ => v = vIf D false (.pointer (some ⟨B, 3, none⟩))), (fun v _ => v = vIf D false (.int .i64 s)), (fun v _ => v = vIf D false (.pointer (some ⟨B, 0, none⟩))), (fun v _ => v = vIf D false (.int .i64 site)), (fun v _ => v = vIf D false (.bool q6)), (fun v _ => v = .bool E), (fun v _ => v = .bool E), (fun v _ => v = vIf E false (.pointer (some ⟨B, 4, none⟩))), (fun v _ => v = vIf E false (.agg #[.int .i64 a, .int .i64 b])), (fun v _ => v = vIf E false (.bool VG)), (fun v _ => v = vIf E false (.bool (!VG))), (fun v _ => v = .bool F), (fun v _ => v = .bool F), (fun v _ => v = vIf F false (.pointer (some ⟨B, 0, none⟩))), (fun v _ => v = vIf F false (.int .i64 site)), (fun v _ => v = vIf F false (.int .i64 (zz : Int))), (fun v _ => v = vIf F false (.pointer (some ⟨B, 4, none⟩))), (fun v _ => v = vIf F false (.pointer (some ⟨B, 4 + zz, none⟩))), (fun v _ => v = vIf F false (.int .i64 VV)), (fun v _ => v = vIf F false (.pointer (some ⟨B, 1, none⟩))), (fun v _ => v = vIf F false (.int .i64 seq)), (fun v _ => v = vIf F false (.bool q8)), (fun v _ => v = .bool G), (fun v _ => v = .bool G), (fun v _ => v = vIf G false (.pointer (some ⟨B, 6, none⟩))), (fun v _ => v = vIf G false (.slice x2 m cap2)), (fun v _ => v = vIf G false (.int .i64 (m : Int))), (fun v _ => v = vIf G false (.bool q9)), (fun v _ => v = .bool H), (fun v _ => v = .bool H), (fun v _ => v = vIf H false (.pointer (some ⟨B, 6, none⟩))), (fun v _ => v = vIf H false (.slice x2 m cap2)), (fun v _ => v = vIf H false (.int .i64 (m : Int))), (fun v _ => v = vIf H false (.bool q10)), (fun v _ => v = .bool HD)] (by kernel_rfl) (by kernel_rfl) rfl rfl rfl ?_ ?_ ?_
    · intro g hg v X Y hX hY hv
      simp only [List.mem_cons, List.not_mem_nil, or_false] at hg
      rcases hg with rfl | rfl | rfl | rfl | rfl | rfl | rfl | rfl | rfl | rfl | rfl | rfl | rfl | rfl | rfl | rfl | rfl | rfl | rfl | rfl | rfl | rfl | rfl | rfl | rfl | rfl | rfl | rfl | rfl | rfl | rfl | rfl | rfl | rfl | rfl | rfl | rfl | rfl | rfl | rfl | rfl | rfl | rfl | rfl | rfl | rfl | rfl | rfl | rfl | rfl | rfl | rfl | rfl | rfl | rfl | rfl | rfl | rfl | rfl | rfl | rfl
      all_goals first
        | exact hv
        | exact hv.kept hY
    · simp only [flowOps, and_true]
      refine ⟨?_,?_,?_,?_,?_,?_,?_,?_,?_,?_,?_,?_,?_,?_,?_,?_,?_,?_,?_,?_,?_,?_,?_,?_,?_,?_,?_,?_,?_,?_,?_,?_,?_,?_,?_,?_,?_,?_,?_,?_,?_,?_,?_,?_,?_,?_,?_,?_,?_,?_,?_,?_,?_,?_,?_,?_,?_,?_,?_,?_,?_⟩
      · intro xs W hW hn
        simp only [flowAct, zwc, zwn]
        go_wp2_with (fail)
        exact ⟨rfl, _, rfl, Below.refl _ _, rfl⟩
      · intro xs W hW hn
        obtain ⟨c0, c1, c2, c3, c4, c5, c6⟩ := HCW.out W hW
        simp [flowNeeds, Region.binds] at hn
        simp only [flowAct, zwc, zwn]
        try simp only [hn]
        go_wp2_with (fail)
        all_goals exact ⟨rfl, _, rfl, Below.refl _ _, rfl⟩
      · intro xs W hW hn
        simp [flowNeeds, Region.binds] at hn
        simp only [flowAct, zwc, zwn]
        try simp only [hn]
        have hqq := hq1
        go_wp2_with (fail)
        all_goals exact ⟨rfl, _, rfl, Below.refl _ _, rfl⟩
      · intro xs W hW hn
        simp [flowNeeds, Region.binds] at hn
        simp only [flowAct, zwc, zwn]
        try simp only [hn]
        go_wp2_with (fail)
        all_goals exact ⟨rfl, _, rfl, Below.refl _ _, rfl⟩
      · intro xs W hW hn
        simp [flowNeeds, Region.binds] at hn
        simp only [flowAct, zwc, zwn]
        cases hq : q1 with
        | true =>
          try rw [hq] at hn
          repeat rw [vIf_tt] at hn
          repeat rw [vIf_ff] at hn
          repeat rw [vIf_tf] at hn
          repeat rw [vIf_ft] at hn
          try simp at hn
          try simp only [hn]
          go_wp2_with (fail)
          exact ⟨rfl, _, rfl, Below.refl _ _, by first | rfl | simp [vIf]⟩
        | false =>
          try rw [hq] at hn
          repeat rw [vIf_tt] at hn
          repeat rw [vIf_ff] at hn
          repeat rw [vIf_tf] at hn
          repeat rw [vIf_ft] at hn
          try simp at hn
          try simp only [hn]
          go_wp2_with (fail)
          exact ⟨rfl, _, rfl, Below.refl _ _, by first | rfl | simp [vIf]⟩
      · intro xs W hW hn
        obtain ⟨c0, c1, c2, c3, c4, c5, c6⟩ := HCW.out W hW
        simp [flowNeeds, Region.binds] at hn
        simp only [flowAct, zwc, zwn]
        cases hq : q1 with
        | true =>
          try rw [hq] at hn
          repeat rw [vIf_tt] at hn
          repeat rw [vIf_ff] at hn
          repeat rw [vIf_tf] at hn
          repeat rw [vIf_ft] at hn
          try simp at hn
          try simp only [hn]
          go_wp2_with (fail)
          exact ⟨rfl, _, rfl, Below.refl _ _, by first | rfl | simp [vIf]⟩
        | false =>
          try rw [hq] at hn
          repeat rw [vIf_tt] at hn
          repeat rw [vIf_ff] at hn
          repeat rw [vIf_tf] at hn
          repeat rw [vIf_ft] at hn
          try simp at hn
          try simp only [hn]
          go_wp2_with (fail)
          exact ⟨rfl, _, rfl, Below.refl _ _, by first | rfl | simp [vIf]⟩
      · intro xs W hW hn
        simp [flowNeeds, Region.binds] at hn
        simp only [flowAct, zwc, zwn]
        cases hq : q1 with
        | true =>
          try rw [hq] at hn
          repeat rw [vIf_tt] at hn
          repeat rw [vIf_ff] at hn
          repeat rw [vIf_tf] at hn
          repeat rw [vIf_ft] at hn
          try simp at hn
          try simp only [hn]
          go_wp2_with (fail)
          exact ⟨rfl, _, rfl, Below.refl _ _, by first | rfl | simp [vIf]⟩
        | false =>
          try rw [hq] at hn
          repeat rw [vIf_tt] at hn
          repeat rw [vIf_ff] at hn
          repeat rw [vIf_tf] at hn
          repeat rw [vIf_ft] at hn
          try simp at hn
          try simp only [hn]
          go_wp2_with (fail)
          exact ⟨rfl, _, rfl, Below.refl _ _, by first | rfl | simp [vIf]⟩
      · intro xs W hW hn
        simp [flowNeeds, Region.binds] at hn
        simp only [flowAct, zwc, zwn]
        cases hq : q1 with
        | true =>
          try rw [hq] at hn
          repeat rw [vIf_tt] at hn
          repeat rw [vIf_ff] at hn
          repeat rw [vIf_tf] at hn
          repeat rw [vIf_ft] at hn
          try simp at hn
          simp only [hn]
          go_wp2_with (fail)
          exact ⟨rfl, _, rfl, Below.refl _ _, by rw [← HA9.out, hq]; first | rfl | simp⟩
        | false =>
          try rw [hq] at hn
          repeat rw [vIf_tt] at hn
          repeat rw [vIf_ff] at hn
          repeat rw [vIf_tf] at hn
          repeat rw [vIf_ft] at hn
          try simp at hn
          simp only [hn]
          go_wp2_with (fail)
          exact ⟨rfl, _, rfl, Below.refl _ _, by rw [← HA9.out, hq]; first | rfl | simp⟩
      · intro xs W hW hn
        simp [flowNeeds, Region.binds] at hn
        simp only [flowAct, zwc, zwn]
        try simp only [hn]
        go_wp2_with (fail)
        all_goals exact ⟨rfl, _, rfl, Below.refl _ _, rfl⟩
      · intro xs W hW hn
        simp [flowNeeds, Region.binds] at hn
        simp only [flowAct, zwc, zwn]
        cases hq : A with
        | true =>
          try rw [hq] at hn
          repeat rw [vIf_tt] at hn
          repeat rw [vIf_ff] at hn
          repeat rw [vIf_tf] at hn
          repeat rw [vIf_ft] at hn
          try simp at hn
          try simp only [hn]
          go_wp2_with (fail)
          exact ⟨rfl, _, rfl, Below.refl _ _, by first | rfl | simp [vIf]⟩
        | false =>
          try rw [hq] at hn
          repeat rw [vIf_tt] at hn
          repeat rw [vIf_ff] at hn
          repeat rw [vIf_tf] at hn
          repeat rw [vIf_ft] at hn
          try simp at hn
          try simp only [hn]
          go_wp2_with (fail)
          exact ⟨rfl, _, rfl, Below.refl _ _, by first | rfl | simp [vIf]⟩
      · intro xs W hW hn
        obtain ⟨c0, c1, c2, c3, c4, c5, c6⟩ := HCW.out W hW
        simp [flowNeeds, Region.binds] at hn
        simp only [flowAct, zwc, zwn]
        cases hq : A with
        | true =>
          try rw [hq] at hn
          repeat rw [vIf_tt] at hn
          repeat rw [vIf_ff] at hn
          repeat rw [vIf_tf] at hn
          repeat rw [vIf_ft] at hn
          try simp at hn
          try simp only [hn]
          go_wp2_with (fail)
          exact ⟨rfl, _, rfl, Below.refl _ _, by first | rfl | simp [vIf]⟩
        | false =>
          try rw [hq] at hn
          repeat rw [vIf_tt] at hn
          repeat rw [vIf_ff] at hn
          repeat rw [vIf_tf] at hn
          repeat rw [vIf_ft] at hn
          try simp at hn
          try simp only [hn]
          go_wp2_with (fail)
          exact ⟨rfl, _, rfl, Below.refl _ _, by first | rfl | simp [vIf]⟩
      · intro xs W hW hn
        simp [flowNeeds, Region.binds] at hn
        simp only [flowAct, zwc, zwn]
        cases hq : A with
        | true =>
          try rw [hq] at hn
          repeat rw [vIf_tt] at hn
          repeat rw [vIf_ff] at hn
          repeat rw [vIf_tf] at hn
          repeat rw [vIf_ft] at hn
          try simp at hn
          try simp only [hn]
          go_wp2_with (fail)
          exact ⟨rfl, _, rfl, Below.refl _ _, by first | rfl | simp [vIf]⟩
        | false =>
          try rw [hq] at hn
          repeat rw [vIf_tt] at hn
          repeat rw [vIf_ff] at hn
          repeat rw [vIf_tf] at hn
          repeat rw [vIf_ft] at hn
          try simp at hn
          try simp only [hn]
          go_wp2_with (fail)
          exact ⟨rfl, _, rfl, Below.refl _ _, by first | rfl | simp [vIf]⟩
      · intro xs W hW hn
        simp [flowNeeds, Region.binds] at hn
        simp only [flowAct, zwc, zwn]
        cases hq : A with
        | true =>
          try rw [hq] at hn
          repeat rw [vIf_tt] at hn
          repeat rw [vIf_ff] at hn
          repeat rw [vIf_tf] at hn
          repeat rw [vIf_ft] at hn
          try simp at hn
          simp only [hn]
          go_wp2_with (fail)
          exact ⟨rfl, _, rfl, Below.refl _ _, by rw [← HBb9.out, hq]; first | rfl | simp⟩
        | false =>
          try rw [hq] at hn
          repeat rw [vIf_tt] at hn
          repeat rw [vIf_ff] at hn
          repeat rw [vIf_tf] at hn
          repeat rw [vIf_ft] at hn
          try simp at hn
          simp only [hn]
          go_wp2_with (fail)
          exact ⟨rfl, _, rfl, Below.refl _ _, by rw [← HBb9.out, hq]; first | rfl | simp⟩
      · intro xs W hW hn
        simp [flowNeeds, Region.binds] at hn
        simp only [flowAct, zwc, zwn]
        try simp only [hn]
        go_wp2_with (fail)
        all_goals exact ⟨rfl, _, rfl, Below.refl _ _, rfl⟩
      · intro xs W hW hn
        simp [flowNeeds, Region.binds] at hn
        simp only [flowAct, zwc, zwn]
        cases hq : Bb with
        | true =>
          try rw [hq] at hn
          repeat rw [vIf_tt] at hn
          repeat rw [vIf_ff] at hn
          repeat rw [vIf_tf] at hn
          repeat rw [vIf_ft] at hn
          try simp at hn
          try simp only [hn]
          go_wp2_with (fail)
          exact ⟨rfl, _, rfl, Below.refl _ _, by first | rfl | simp [vIf]⟩
        | false =>
          try rw [hq] at hn
          repeat rw [vIf_tt] at hn
          repeat rw [vIf_ff] at hn
          repeat rw [vIf_tf] at hn
          repeat rw [vIf_ft] at hn
          try simp at hn
          try simp only [hn]
          go_wp2_with (fail)
          exact ⟨rfl, _, rfl, Below.refl _ _, by first | rfl | simp [vIf]⟩
      · intro xs W hW hn
        obtain ⟨c0, c1, c2, c3, c4, c5, c6⟩ := HCW.out W hW
        simp [flowNeeds, Region.binds] at hn
        simp only [flowAct, zwc, zwn]
        cases hq : Bb with
        | true =>
          try rw [hq] at hn
          repeat rw [vIf_tt] at hn
          repeat rw [vIf_ff] at hn
          repeat rw [vIf_tf] at hn
          repeat rw [vIf_ft] at hn
          try simp at hn
          try simp only [hn]
          go_wp2_with (fail)
          exact ⟨rfl, _, rfl, Below.refl _ _, by first | rfl | simp [vIf]⟩
        | false =>
          try rw [hq] at hn
          repeat rw [vIf_tt] at hn
          repeat rw [vIf_ff] at hn
          repeat rw [vIf_tf] at hn
          repeat rw [vIf_ft] at hn
          try simp at hn
          try simp only [hn]
          go_wp2_with (fail)
          exact ⟨rfl, _, rfl, Below.refl _ _, by first | rfl | simp [vIf]⟩
      · intro xs W hW hn
        simp [flowNeeds, Region.binds] at hn
        simp only [flowAct, zwc, zwn]
        cases hq : Bb with
        | true =>
          try rw [hq] at hn
          repeat rw [vIf_tt] at hn
          repeat rw [vIf_ff] at hn
          repeat rw [vIf_tf] at hn
          repeat rw [vIf_ft] at hn
          try simp at hn
          try simp only [hn]
          go_wp2_with (fail)
          exact ⟨rfl, _, rfl, Below.refl _ _, by first | rfl | simp [vIf]⟩
        | false =>
          try rw [hq] at hn
          repeat rw [vIf_tt] at hn
          repeat rw [vIf_ff] at hn
          repeat rw [vIf_tf] at hn
          repeat rw [vIf_ft] at hn
          try simp at hn
          try simp only [hn]
          go_wp2_with (fail)
          exact ⟨rfl, _, rfl, Below.refl _ _, by first | rfl | simp [vIf]⟩
      · intro xs W hW hn
        simp [flowNeeds, Region.binds] at hn
        simp only [flowAct, zwc, zwn]
        cases hq : Bb with
        | true =>
          try rw [hq] at hn
          repeat rw [vIf_tt] at hn
          repeat rw [vIf_ff] at hn
          repeat rw [vIf_tf] at hn
          repeat rw [vIf_ft] at hn
          try simp at hn
          simp only [hn]
          go_wp2_with (fail)
          exact ⟨rfl, _, rfl, Below.refl _ _, by rw [← HC9.out, hq]; first | rfl | simp⟩
        | false =>
          try rw [hq] at hn
          repeat rw [vIf_tt] at hn
          repeat rw [vIf_ff] at hn
          repeat rw [vIf_tf] at hn
          repeat rw [vIf_ft] at hn
          try simp at hn
          simp only [hn]
          go_wp2_with (fail)
          exact ⟨rfl, _, rfl, Below.refl _ _, by rw [← HC9.out, hq]; first | rfl | simp⟩
      · intro xs W hW hn
        simp [flowNeeds, Region.binds] at hn
        simp only [flowAct, zwc, zwn]
        try simp only [hn]
        go_wp2_with (fail)
        all_goals exact ⟨rfl, _, rfl, Below.refl _ _, rfl⟩
      · intro xs W hW hn
        simp [flowNeeds, Region.binds] at hn
        simp only [flowAct, zwc, zwn]
        cases hq : C with
        | true =>
          try rw [hq] at hn
          repeat rw [vIf_tt] at hn
          repeat rw [vIf_ff] at hn
          repeat rw [vIf_tf] at hn
          repeat rw [vIf_ft] at hn
          try simp at hn
          try simp only [hn]
          go_wp2_with (fail)
          exact ⟨rfl, _, rfl, Below.refl _ _, by first | rfl | simp [vIf]⟩
        | false =>
          try rw [hq] at hn
          repeat rw [vIf_tt] at hn
          repeat rw [vIf_ff] at hn
          repeat rw [vIf_tf] at hn
          repeat rw [vIf_ft] at hn
          try simp at hn
          try simp only [hn]
          go_wp2_with (fail)
          exact ⟨rfl, _, rfl, Below.refl _ _, by first | rfl | simp [vIf]⟩
      · intro xs W hW hn
        obtain ⟨c0, c1, c2, c3, c4, c5, c6⟩ := HCW.out W hW
        simp [flowNeeds, Region.binds] at hn
        simp only [flowAct, zwc, zwn]
        cases hq : C with
        | true =>
          try rw [hq] at hn
          repeat rw [vIf_tt] at hn
          repeat rw [vIf_ff] at hn
          repeat rw [vIf_tf] at hn
          repeat rw [vIf_ft] at hn
          try simp at hn
          try simp only [hn]
          go_wp2_with (fail)
          exact ⟨rfl, _, rfl, Below.refl _ _, by first | rfl | simp [vIf]⟩
        | false =>
          try rw [hq] at hn
          repeat rw [vIf_tt] at hn
          repeat rw [vIf_ff] at hn
          repeat rw [vIf_tf] at hn
          repeat rw [vIf_ft] at hn
          try simp at hn
          try simp only [hn]
          go_wp2_with (fail)
          exact ⟨rfl, _, rfl, Below.refl _ _, by first | rfl | simp [vIf]⟩
      · intro xs W hW hn
        simp [flowNeeds, Region.binds] at hn
        simp only [flowAct, zwc, zwn]
        cases hq : C with
        | true =>
          try rw [hq] at hn
          repeat rw [vIf_tt] at hn
          repeat rw [vIf_ff] at hn
          repeat rw [vIf_tf] at hn
          repeat rw [vIf_ft] at hn
          try simp at hn
          try simp only [hn]
          go_wp2_with (fail)
          exact ⟨rfl, _, rfl, Below.refl _ _, by first | rfl | simp [vIf]⟩
        | false =>
          try rw [hq] at hn
          repeat rw [vIf_tt] at hn
          repeat rw [vIf_ff] at hn
          repeat rw [vIf_tf] at hn
          repeat rw [vIf_ft] at hn
          try simp at hn
          try simp only [hn]
          go_wp2_with (go_at_call 113; (with_reducible refine (HSG.out _).mono ?_); rintro e9 w9 ⟨rfl, hb9⟩)
          all_goals exact ⟨rfl, _, rfl, hb9, by first | rfl | simp [vIf]⟩
      · intro xs W hW hn
        simp [flowNeeds, Region.binds] at hn
        simp only [flowAct, zwc, zwn]
        cases hq : C with
        | true =>
          try rw [hq] at hn
          repeat rw [vIf_tt] at hn
          repeat rw [vIf_ff] at hn
          repeat rw [vIf_tf] at hn
          repeat rw [vIf_ft] at hn
          try simp at hn
          try simp only [hn]
          go_wp2_with (fail)
          exact ⟨rfl, _, rfl, Below.refl _ _, by first | rfl | simp [vIf]⟩
        | false =>
          try rw [hq] at hn
          repeat rw [vIf_tt] at hn
          repeat rw [vIf_ff] at hn
          repeat rw [vIf_tf] at hn
          repeat rw [vIf_ft] at hn
          try simp at hn
          try simp only [hn]
          go_wp2_with (fail)
          exact ⟨rfl, _, rfl, Below.refl _ _, by first | rfl | simp [vIf]⟩
      · intro xs W hW hn
        simp [flowNeeds, Region.binds] at hn
        simp only [flowAct, zwc, zwn]
        cases hq : C with
        | true =>
          try rw [hq] at hn
          repeat rw [vIf_tt] at hn
          repeat rw [vIf_ff] at hn
          repeat rw [vIf_tf] at hn
          repeat rw [vIf_ft] at hn
          try simp at hn
          simp only [hn]
          go_wp2_with (fail)
          exact ⟨rfl, _, rfl, Below.refl _ _, by rw [← HD9.out, hq]; first | rfl | simp⟩
        | false =>
          try rw [hq] at hn
          repeat rw [vIf_tt] at hn
          repeat rw [vIf_ff] at hn
          repeat rw [vIf_tf] at hn
          repeat rw [vIf_ft] at hn
          try simp at hn
          simp only [hn]
          go_wp2_with (fail)
          exact ⟨rfl, _, rfl, Below.refl _ _, by rw [← HD9.out, hq]; first | rfl | simp⟩
      · intro xs W hW hn
        simp [flowNeeds, Region.binds] at hn
        simp only [flowAct, zwc, zwn]
        try simp only [hn]
        go_wp2_with (fail)
        all_goals exact ⟨rfl, _, rfl, Below.refl _ _, rfl⟩
      · intro xs W hW hn
        simp [flowNeeds, Region.binds] at hn
        simp only [flowAct, zwc, zwn]
        cases hq : D with
        | true =>
          try rw [hq] at hn
          repeat rw [vIf_tt] at hn
          repeat rw [vIf_ff] at hn
          repeat rw [vIf_tf] at hn
          repeat rw [vIf_ft] at hn
          try simp at hn
          try simp only [hn]
          go_wp2_with (fail)
          exact ⟨rfl, _, rfl, Below.refl _ _, by first | rfl | simp [vIf]⟩
        | false =>
          try rw [hq] at hn
          repeat rw [vIf_tt] at hn
          repeat rw [vIf_ff] at hn
          repeat rw [vIf_tf] at hn
          repeat rw [vIf_ft] at hn
          try simp at hn
          try simp only [hn]
          go_wp2_with (fail)
          exact ⟨rfl, _, rfl, Below.refl _ _, by first | rfl | simp [vIf]⟩
      · intro xs W hW hn
        simp [flowNeeds, Region.binds] at hn
        simp only [flowAct, zwc, zwn]
        cases hq : D with
        | true =>
          try rw [hq] at hn
          repeat rw [vIf_tt] at hn
          repeat rw [vIf_ff] at hn
          repeat rw [vIf_tf] at hn
          repeat rw [vIf_ft] at hn
          try simp at hn
          try simp only [hn]
          go_wp2_with (fail)
          exact ⟨rfl, _, rfl, Below.refl _ _, by first | rfl | simp [vIf]⟩
        | false =>
          try rw [hq] at hn
          repeat rw [vIf_tt] at hn
          repeat rw [vIf_ff] at hn
          repeat rw [vIf_tf] at hn
          repeat rw [vIf_ft] at hn
          try simp at hn
          try simp only [hn]
          go_wp2_with (fail)
          exact ⟨rfl, _, rfl, Below.refl _ _, by first | rfl | simp [vIf]⟩
      · intro xs W hW hn
        obtain ⟨c0, c1, c2, c3, c4, c5, c6⟩ := HCW.out W hW
        simp [flowNeeds, Region.binds] at hn
        simp only [flowAct, zwc, zwn]
        cases hq : D with
        | true =>
          try rw [hq] at hn
          repeat rw [vIf_tt] at hn
          repeat rw [vIf_ff] at hn
          repeat rw [vIf_tf] at hn
          repeat rw [vIf_ft] at hn
          try simp at hn
          try simp only [hn]
          go_wp2_with (fail)
          exact ⟨rfl, _, rfl, Below.refl _ _, by first | rfl | simp [vIf]⟩
        | false =>
          try rw [hq] at hn
          repeat rw [vIf_tt] at hn
          repeat rw [vIf_ff] at hn
          repeat rw [vIf_tf] at hn
          repeat rw [vIf_ft] at hn
          try simp at hn
          try simp only [hn]
          go_wp2_with (fail)
          exact ⟨rfl, _, rfl, Below.refl _ _, by first | rfl | simp [vIf]⟩
      · intro xs W hW hn
        simp [flowNeeds, Region.binds] at hn
        simp only [flowAct, zwc, zwn]
        cases hq : D with
        | true =>
          try rw [hq] at hn
          repeat rw [vIf_tt] at hn
          repeat rw [vIf_ff] at hn
          repeat rw [vIf_tf] at hn
          repeat rw [vIf_ft] at hn
          try simp at hn
          try simp only [hn]
          go_wp2_with (fail)
          exact ⟨rfl, _, rfl, Below.refl _ _, by first | rfl | simp [vIf]⟩
        | false =>
          try rw [hq] at hn
          repeat rw [vIf_tt] at hn
          repeat rw [vIf_ff] at hn
          repeat rw [vIf_tf] at hn
          repeat rw [vIf_ft] at hn
          try simp at hn
          try simp only [hn]
          go_wp2_with (fail)
          exact ⟨rfl, _, rfl, Below.refl _ _, by first | rfl | simp [vIf]⟩
      · intro xs W hW hn
        obtain ⟨c0, c1, c2, c3, c4, c5, c6⟩ := HCW.out W hW
        simp [flowNeeds, Region.binds] at hn
        simp only [flowAct, zwc, zwn]
        cases hq : D with
        | true =>
          try rw [hq] at hn
          repeat rw [vIf_tt] at hn
          repeat rw [vIf_ff] at hn
          repeat rw [vIf_tf] at hn
          repeat rw [vIf_ft] at hn
          try simp at hn
          try simp only [hn]
          go_wp2_with (fail)
          exact ⟨rfl, _, rfl, Below.refl _ _, by first | rfl | simp [vIf]⟩
        | false =>
          try rw [hq] at hn
          repeat rw [vIf_tt] at hn
          repeat rw [vIf_ff] at hn
          repeat rw [vIf_tf] at hn
          repeat rw [vIf_ft] at hn
          try simp at hn
          try simp only [hn]
          go_wp2_with (fail)
          exact ⟨rfl, _, rfl, Below.refl _ _, by first | rfl | simp [vIf]⟩
      · intro xs W hW hn
        simp [flowNeeds, Region.binds] at hn
        simp only [flowAct, zwc, zwn]
        cases hq : D with
        | true =>
          try rw [hq] at hn
          repeat rw [vIf_tt] at hn
          repeat rw [vIf_ff] at hn
          repeat rw [vIf_tf] at hn
          repeat rw [vIf_ft] at hn
          try simp at hn
          try simp only [hn]
          go_wp2_with (fail)
          exact ⟨rfl, _, rfl, Below.refl _ _, by first | rfl | simp [vIf]⟩
        | false =>
          try rw [hq] at hn
          repeat rw [vIf_tt] at hn
          repeat rw [vIf_ff] at hn
          repeat rw [vIf_tf] at hn
          repeat rw [vIf_ft] at hn
          try simp at hn
          try simp only [hn]
          go_wp2_with (fail)
          exact ⟨rfl, _, rfl, Below.refl _ _, by first | rfl | simp [vIf]⟩
      · intro xs W hW hn
        simp [flowNeeds, Region.binds] at hn
        simp only [flowAct, zwc, zwn]
        cases hq : D with
        | true =>
          try rw [hq] at hn
          repeat rw [vIf_tt] at hn
          repeat rw [vIf_ff] at hn
          repeat rw [vIf_tf] at hn
          repeat rw [vIf_ft] at hn
          try simp at hn
          simp only [hn]
          go_wp2_with (fail)
          exact ⟨rfl, _, rfl, Below.refl _ _, by rw [← HE9.out, hq]; first | rfl | simp⟩
        | false =>
          try rw [hq] at hn
          repeat rw [vIf_tt] at hn
          repeat rw [vIf_ff] at hn
          repeat rw [vIf_tf] at hn
          repeat rw [vIf_ft] at hn
          try simp at hn
          simp only [hn]
          go_wp2_with (fail)
          exact ⟨rfl, _, rfl, Below.refl _ _, by rw [← HE9.out, hq]; first | rfl | simp⟩
      · intro xs W hW hn
        simp [flowNeeds, Region.binds] at hn
        simp only [flowAct, zwc, zwn]
        try simp only [hn]
        go_wp2_with (fail)
        all_goals exact ⟨rfl, _, rfl, Below.refl _ _, rfl⟩
      · intro xs W hW hn
        simp [flowNeeds, Region.binds] at hn
        simp only [flowAct, zwc, zwn]
        cases hq : E with
        | true =>
          try rw [hq] at hn
          repeat rw [vIf_tt] at hn
          repeat rw [vIf_ff] at hn
          repeat rw [vIf_tf] at hn
          repeat rw [vIf_ft] at hn
          try simp at hn
          try simp only [hn]
          go_wp2_with (fail)
          exact ⟨rfl, _, rfl, Below.refl _ _, by first | rfl | simp [vIf]⟩
        | false =>
          try rw [hq] at hn
          repeat rw [vIf_tt] at hn
          repeat rw [vIf_ff] at hn
          repeat rw [vIf_tf] at hn
          repeat rw [vIf_ft] at hn
          try simp at hn
          try simp only [hn]
          go_wp2_with (fail)
          exact ⟨rfl, _, rfl, Below.refl _ _, by first | rfl | simp [vIf]⟩
      · intro xs W hW hn
        obtain ⟨c0, c1, c2, c3, c4, c5, c6⟩ := HCW.out W hW
        simp [flowNeeds, Region.binds] at hn
        simp only [flowAct, zwc, zwn]
        cases hq : E with
        | true =>
          try rw [hq] at hn
          repeat rw [vIf_tt] at hn
          repeat rw [vIf_ff] at hn
          repeat rw [vIf_tf] at hn
          repeat rw [vIf_ft] at hn
          try simp at hn
          try simp only [hn]
          go_wp2_with (fail)
          exact ⟨rfl, _, rfl, Below.refl _ _, by first | rfl | simp [vIf]⟩
        | false =>
          try rw [hq] at hn
          repeat rw [vIf_tt] at hn
          repeat rw [vIf_ff] at hn
          repeat rw [vIf_tf] at hn
          repeat rw [vIf_ft] at hn
          try simp at hn
          try simp only [hn]
          go_wp2_with (fail)
          exact ⟨rfl, _, rfl, Below.refl _ _, by first | rfl | simp [vIf]⟩
      · intro xs W hW hn
        simp [flowNeeds, Region.binds] at hn
        simp only [flowAct, zwc, zwn]
        cases hq : E with
        | true =>
          try rw [hq] at hn
          repeat rw [vIf_tt] at hn
          repeat rw [vIf_ff] at hn
          repeat rw [vIf_tf] at hn
          repeat rw [vIf_ft] at hn
          try simp at hn
          try simp only [hn]
          go_wp2_with (fail)
          exact ⟨rfl, _, rfl, Below.refl _ _, by first | rfl | simp [vIf]⟩
        | false =>
          try rw [hq] at hn
          repeat rw [vIf_tt] at hn
          repeat rw [vIf_ff] at hn
          repeat rw [vIf_tf] at hn
          repeat rw [vIf_ft] at hn
          try simp at hn
          try simp only [hn]
          go_wp2_with (go_at_call 114; (with_reducible refine (HVG.out _).mono ?_); rintro e9 w9 ⟨rfl, hb9⟩)
          all_goals exact ⟨rfl, _, rfl, hb9, by first | rfl | simp [vIf]⟩
      · intro xs W hW hn
        simp [flowNeeds, Region.binds] at hn
        simp only [flowAct, zwc, zwn]
        cases hq : E with
        | true =>
          try rw [hq] at hn
          repeat rw [vIf_tt] at hn
          repeat rw [vIf_ff] at hn
          repeat rw [vIf_tf] at hn
          repeat rw [vIf_ft] at hn
          try simp at hn
          try simp only [hn]
          go_wp2_with (fail)
          exact ⟨rfl, _, rfl, Below.refl _ _, by first | rfl | simp [vIf]⟩
        | false =>
          try rw [hq] at hn
          repeat rw [vIf_tt] at hn
          repeat rw [vIf_ff] at hn
          repeat rw [vIf_tf] at hn
          repeat rw [vIf_ft] at hn
          try simp at hn
          try simp only [hn]
          go_wp2_with (fail)
          exact ⟨rfl, _, rfl, Below.refl _ _, by first | rfl | simp [vIf]⟩
      · intro xs W hW hn
        simp [flowNeeds, Region.binds] at hn
        simp only [flowAct, zwc, zwn]
        cases hq : E with
        | true =>
          try rw [hq] at hn
          repeat rw [vIf_tt] at hn
          repeat rw [vIf_ff] at hn
          repeat rw [vIf_tf] at hn
          repeat rw [vIf_ft] at hn
          try simp at hn
          simp only [hn]
          go_wp2_with (fail)
          exact ⟨rfl, _, rfl, Below.refl _ _, by rw [← HF9.out, hq]; first | rfl | simp⟩
        | false =>
          try rw [hq] at hn
          repeat rw [vIf_tt] at hn
          repeat rw [vIf_ff] at hn
          repeat rw [vIf_tf] at hn
          repeat rw [vIf_ft] at hn
          try simp at hn
          simp only [hn]
          go_wp2_with (fail)
          exact ⟨rfl, _, rfl, Below.refl _ _, by rw [← HF9.out, hq]; first | rfl | simp⟩
      · intro xs W hW hn
        simp [flowNeeds, Region.binds] at hn
        simp only [flowAct, zwc, zwn]
        try simp only [hn]
        go_wp2_with (fail)
        all_goals exact ⟨rfl, _, rfl, Below.refl _ _, rfl⟩
      · intro xs W hW hn
        simp [flowNeeds, Region.binds] at hn
        simp only [flowAct, zwc, zwn]
        cases hq : F with
        | true =>
          try rw [hq] at hn
          repeat rw [vIf_tt] at hn
          repeat rw [vIf_ff] at hn
          repeat rw [vIf_tf] at hn
          repeat rw [vIf_ft] at hn
          try simp at hn
          try simp only [hn]
          go_wp2_with (fail)
          exact ⟨rfl, _, rfl, Below.refl _ _, by first | rfl | simp [vIf]⟩
        | false =>
          try rw [hq] at hn
          repeat rw [vIf_tt] at hn
          repeat rw [vIf_ff] at hn
          repeat rw [vIf_tf] at hn
          repeat rw [vIf_ft] at hn
          try simp at hn
          try simp only [hn]
          go_wp2_with (fail)
          exact ⟨rfl, _, rfl, Below.refl _ _, by first | rfl | simp [vIf]⟩
      · intro xs W hW hn
        obtain ⟨c0, c1, c2, c3, c4, c5, c6⟩ := HCW.out W hW
        simp [flowNeeds, Region.binds] at hn
        simp only [flowAct, zwc, zwn]
        cases hq : F with
        | true =>
          try rw [hq] at hn
          repeat rw [vIf_tt] at hn
          repeat rw [vIf_ff] at hn
          repeat rw [vIf_tf] at hn
          repeat rw [vIf_ft] at hn
          try simp at hn
          try simp only [hn]
          go_wp2_with (fail)
          exact ⟨rfl, _, rfl, Below.refl _ _, by first | rfl | simp [vIf]⟩
        | false =>
          try rw [hq] at hn
          repeat rw [vIf_tt] at hn
          repeat rw [vIf_ff] at hn
          repeat rw [vIf_tf] at hn
          repeat rw [vIf_ft] at hn
          try simp at hn
          try simp only [hn]
          go_wp2_with (fail)
          exact ⟨rfl, _, rfl, Below.refl _ _, by first | rfl | simp [vIf]⟩
      · intro xs W hW hn
        simp [flowNeeds, Region.binds] at hn
        simp only [flowAct, zwc, zwn]
        cases hq : F with
        | true =>
          try rw [hq] at hn
          repeat rw [vIf_tt] at hn
          repeat rw [vIf_ff] at hn
          repeat rw [vIf_tf] at hn
          repeat rw [vIf_ft] at hn
          try simp at hn
          try simp only [hn]
          go_wp2_with (fail)
          exact ⟨rfl, _, rfl, Below.refl _ _, by first | rfl | simp [vIf]⟩
        | false =>
          try rw [hq] at hn
          repeat rw [vIf_tt] at hn
          repeat rw [vIf_ff] at hn
          repeat rw [vIf_tf] at hn
          repeat rw [vIf_ft] at hn
          try simp at hn
          try simp only [hn]
          obtain ⟨z1, z2, z3, z4, z5, z8⟩ := HZZ.out hq
          clear z8 z3
          go_wp2_with (fail)
          exact ⟨rfl, _, rfl, Below.refl _ _, by first | rfl | (simp [vIf, z1])⟩
      · intro xs W hW hn
        simp [flowNeeds, Region.binds] at hn
        simp only [flowAct, zwc, zwn]
        cases hq : F with
        | true =>
          try rw [hq] at hn
          repeat rw [vIf_tt] at hn
          repeat rw [vIf_ff] at hn
          repeat rw [vIf_tf] at hn
          repeat rw [vIf_ft] at hn
          try simp at hn
          try simp only [hn]
          go_wp2_with (fail)
          exact ⟨rfl, _, rfl, Below.refl _ _, by first | rfl | simp [vIf]⟩
        | false =>
          try rw [hq] at hn
          repeat rw [vIf_tt] at hn
          repeat rw [vIf_ff] at hn
          repeat rw [vIf_tf] at hn
          repeat rw [vIf_ft] at hn
          try simp at hn
          try simp only [hn]
          go_wp2_with (fail)
          exact ⟨rfl, _, rfl, Below.refl _ _, by first | rfl | simp [vIf]⟩
      · intro xs W hW hn
        simp [flowNeeds, Region.binds] at hn
        simp only [flowAct, zwc, zwn]
        cases hq : F with
        | true =>
          try rw [hq] at hn
          repeat rw [vIf_tt] at hn
          repeat rw [vIf_ff] at hn
          repeat rw [vIf_tf] at hn
          repeat rw [vIf_ft] at hn
          try simp at hn
          try simp only [hn]
          go_wp2_with (fail)
          exact ⟨rfl, _, rfl, Below.refl _ _, by first | rfl | simp [vIf]⟩
        | false =>
          try rw [hq] at hn
          repeat rw [vIf_tt] at hn
          repeat rw [vIf_ff] at hn
          repeat rw [vIf_tf] at hn
          repeat rw [vIf_ft] at hn
          try simp at hn
          try simp only [hn]
          obtain ⟨z1, z2, z3, z4, z5, z8⟩ := HZZ.out hq
          have z6 : (zz : Int) < 2 := by omega
          clear z8 z3
          go_wp2_with (fail)
          exact ⟨rfl, _, rfl, Below.refl _ _, by first | rfl | simp [vIf]⟩
      · intro xs W hW hn
        obtain ⟨c0, c1, c2, c3, c4, c5, c6⟩ := HCW.out W hW
        simp [flowNeeds, Region.binds] at hn
        simp only [flowAct, zwc, zwn]
        cases hq : F with
        | true =>
          try rw [hq] at hn
          repeat rw [vIf_tt] at hn
          repeat rw [vIf_ff] at hn
          repeat rw [vIf_tf] at hn
          repeat rw [vIf_ft] at hn
          try simp at hn
          try simp only [hn]
          go_wp2_with (fail)
          exact ⟨rfl, _, rfl, Below.refl _ _, by first | rfl | simp [vIf]⟩
        | false =>
          try rw [hq] at hn
          repeat rw [vIf_tt] at hn
          repeat rw [vIf_ff] at hn
          repeat rw [vIf_tf] at hn
          repeat rw [vIf_ft] at hn
          try simp at hn
          try simp only [hn]
          obtain ⟨z1, z2, z3, z4, z5, z8⟩ := HZZ.out hq
          have z7 : W.cell? ⟨B, 4 + zz, none⟩ = some (.int .i64 VV) := by
            rcases z8 with ⟨h, h2⟩ | ⟨h, h2⟩
            · rw [h, h2]; exact c4
            · rw [h, h2]; exact c5
          clear z8 z3
          go_wp2_with (fail)
          exact ⟨rfl, _, rfl, Below.refl _ _, by first | rfl | simp [vIf]⟩
      · intro xs W hW hn
        simp [flowNeeds, Region.binds] at hn
        simp only [flowAct, zwc, zwn]
        cases hq : F with
        | true =>
          try rw [hq] at hn
          repeat rw [vIf_tt] at hn
          repeat rw [vIf_ff] at hn
          repeat rw [vIf_tf] at hn
          repeat rw [vIf_ft] at hn
          try simp at hn
          try simp only [hn]
          go_wp2_with (fail)
          exact ⟨rfl, _, rfl, Below.refl _ _, by first | rfl | simp [vIf]⟩
        | false =>
          try rw [hq] at hn
          repeat rw [vIf_tt] at hn
          repeat rw [vIf_ff] at hn
          repeat rw [vIf_tf] at hn
          repeat rw [vIf_ft] at hn
          try simp at hn
          try simp only [hn]
          go_wp2_with (fail)
          exact ⟨rfl, _, rfl, Below.refl _ _, by first | rfl | simp [vIf]⟩
      · intro xs W hW hn
        obtain ⟨c0, c1, c2, c3, c4, c5, c6⟩ := HCW.out W hW
        simp [flowNeeds, Region.binds] at hn
        simp only [flowAct, zwc, zwn]
        cases hq : F with
        | true =>
          try rw [hq] at hn
          repeat rw [vIf_tt] at hn
          repeat rw [vIf_ff] at hn
          repeat rw [vIf_tf] at hn
          repeat rw [vIf_ft] at hn
          try simp at hn
          try simp only [hn]
          go_wp2_with (fail)
          exact ⟨rfl, _, rfl, Below.refl _ _, by first | rfl | simp [vIf]⟩
        | false =>
          try rw [hq] at hn
          repeat rw [vIf_tt] at hn
          repeat rw [vIf_ff] at hn
          repeat rw [vIf_tf] at hn
          repeat rw [vIf_ft] at hn
          try simp at hn
          try simp only [hn]
          go_wp2_with (fail)
          exact ⟨rfl, _, rfl, Below.refl _ _, by first | rfl | simp [vIf]⟩
      · intro xs W hW hn
        simp [flowNeeds, Region.binds] at hn
        simp only [flowAct, zwc, zwn]
        cases hq : F with
        | true =>
          try rw [hq] at hn
          repeat rw [vIf_tt] at hn
          repeat rw [vIf_ff] at hn
          repeat rw [vIf_tf] at hn
          repeat rw [vIf_ft] at hn
          try simp at hn
          try simp only [hn]
          go_wp2_with (fail)
          exact ⟨rfl, _, rfl, Below.refl _ _, by first | rfl | simp [vIf]⟩
        | false =>
          try rw [hq] at hn
          repeat rw [vIf_tt] at hn
          repeat rw [vIf_ff] at hn
          repeat rw [vIf_tf] at hn
          repeat rw [vIf_ft] at hn
          try simp at hn
          try simp only [hn]
          obtain ⟨z1, z2, z3, z4, z5, z8⟩ := HZZ.out hq
          clear z8
          go_wp2_with (fail)
          exact ⟨rfl, _, rfl, Below.refl _ _, by first | rfl | simp [vIf]⟩
      · intro xs W hW hn
        simp [flowNeeds, Region.binds] at hn
        simp only [flowAct, zwc, zwn]
        cases hq : F with
        | true =>
          try rw [hq] at hn
          repeat rw [vIf_tt] at hn
          repeat rw [vIf_ff] at hn
          repeat rw [vIf_tf] at hn
          repeat rw [vIf_ft] at hn
          try simp at hn
          simp only [hn]
          go_wp2_with (fail)
          exact ⟨rfl, _, rfl, Below.refl _ _, by rw [← HG9.out, hq]; first | rfl | simp⟩
        | false =>
          try rw [hq] at hn
          repeat rw [vIf_tt] at hn
          repeat rw [vIf_ff] at hn
          repeat rw [vIf_tf] at hn
          repeat rw [vIf_ft] at hn
          try simp at hn
          simp only [hn]
          go_wp2_with (fail)
          exact ⟨rfl, _, rfl, Below.refl _ _, by rw [← HG9.out, hq]; first | rfl | simp⟩
      · intro xs W hW hn
        simp [flowNeeds, Region.binds] at hn
        simp only [flowAct, zwc, zwn]
        try simp only [hn]
        go_wp2_with (fail)
        all_goals exact ⟨rfl, _, rfl, Below.refl _ _, rfl⟩
      · intro xs W hW hn
        simp [flowNeeds, Region.binds] at hn
        simp only [flowAct, zwc, zwn]
        cases hq : G with
        | true =>
          try rw [hq] at hn
          repeat rw [vIf_tt] at hn
          repeat rw [vIf_ff] at hn
          repeat rw [vIf_tf] at hn
          repeat rw [vIf_ft] at hn
          try simp at hn
          try simp only [hn]
          go_wp2_with (fail)
          exact ⟨rfl, _, rfl, Below.refl _ _, by first | rfl | simp [vIf]⟩
        | false =>
          try rw [hq] at hn
          repeat rw [vIf_tt] at hn
          repeat rw [vIf_ff] at hn
          repeat rw [vIf_tf] at hn
          repeat rw [vIf_ft] at hn
          try simp at hn
          try simp only [hn]
          go_wp2_with (fail)
          exact ⟨rfl, _, rfl, Below.refl _ _, by first | rfl | simp [vIf]⟩
      · intro xs W hW hn
        obtain ⟨c0, c1, c2, c3, c4, c5, c6⟩ := HCW.out W hW
        simp [flowNeeds, Region.binds] at hn
        simp only [flowAct, zwc, zwn]
        cases hq : G with
        | true =>
          try rw [hq] at hn
          repeat rw [vIf_tt] at hn
          repeat rw [vIf_ff] at hn
          repeat rw [vIf_tf] at hn
          repeat rw [vIf_ft] at hn
          try simp at hn
          try simp only [hn]
          go_wp2_with (fail)
          exact ⟨rfl, _, rfl, Below.refl _ _, by first | rfl | simp [vIf]⟩
        | false =>
          try rw [hq] at hn
          repeat rw [vIf_tt] at hn
          repeat rw [vIf_ff] at hn
          repeat rw [vIf_tf] at hn
          repeat rw [vIf_ft] at hn
          try simp at hn
          try simp only [hn]
          go_wp2_with (fail)
          exact ⟨rfl, _, rfl, Below.refl _ _, by first | rfl | simp [vIf]⟩
      · intro xs W hW hn
        simp [flowNeeds, Region.binds] at hn
        simp only [flowAct, zwc, zwn]
        cases hq : G with
        | true =>
          try rw [hq] at hn
          repeat rw [vIf_tt] at hn
          repeat rw [vIf_ff] at hn
          repeat rw [vIf_tf] at hn
          repeat rw [vIf_ft] at hn
          try simp at hn
          try simp only [hn]
          go_wp2_with (fail)
          exact ⟨rfl, _, rfl, Below.refl _ _, by first | rfl | simp [vIf]⟩
        | false =>
          try rw [hq] at hn
          repeat rw [vIf_tt] at hn
          repeat rw [vIf_ff] at hn
          repeat rw [vIf_tf] at hn
          repeat rw [vIf_ft] at hn
          try simp at hn
          try simp only [hn]
          go_wp2_with (fail)
          exact ⟨rfl, _, rfl, Below.refl _ _, by first | rfl | simp [vIf]⟩
      · intro xs W hW hn
        simp [flowNeeds, Region.binds] at hn
        simp only [flowAct, zwc, zwn]
        cases hq : G with
        | true =>
          try rw [hq] at hn
          repeat rw [vIf_tt] at hn
          repeat rw [vIf_ff] at hn
          repeat rw [vIf_tf] at hn
          repeat rw [vIf_ft] at hn
          try simp at hn
          try simp only [hn]
          go_wp2_with (fail)
          exact ⟨rfl, _, rfl, Below.refl _ _, by first | rfl | simp [vIf]⟩
        | false =>
          try rw [hq] at hn
          repeat rw [vIf_tt] at hn
          repeat rw [vIf_ff] at hn
          repeat rw [vIf_tf] at hn
          repeat rw [vIf_ft] at hn
          try simp at hn
          try simp only [hn]
          go_wp2_with (fail)
          exact ⟨rfl, _, rfl, Below.refl _ _, by first | rfl | simp [vIf]⟩
      · intro xs W hW hn
        simp [flowNeeds, Region.binds] at hn
        simp only [flowAct, zwc, zwn]
        cases hq : G with
        | true =>
          try rw [hq] at hn
          repeat rw [vIf_tt] at hn
          repeat rw [vIf_ff] at hn
          repeat rw [vIf_tf] at hn
          repeat rw [vIf_ft] at hn
          try simp at hn
          simp only [hn]
          go_wp2_with (fail)
          exact ⟨rfl, _, rfl, Below.refl _ _, by rw [← HH9.out, hq]; first | rfl | simp⟩
        | false =>
          try rw [hq] at hn
          repeat rw [vIf_tt] at hn
          repeat rw [vIf_ff] at hn
          repeat rw [vIf_tf] at hn
          repeat rw [vIf_ft] at hn
          try simp at hn
          simp only [hn]
          go_wp2_with (fail)
          exact ⟨rfl, _, rfl, Below.refl _ _, by rw [← HH9.out, hq]; first | rfl | simp⟩
      · intro xs W hW hn
        simp [flowNeeds, Region.binds] at hn
        simp only [flowAct, zwc, zwn]
        try simp only [hn]
        go_wp2_with (fail)
        all_goals exact ⟨rfl, _, rfl, Below.refl _ _, rfl⟩
      · intro xs W hW hn
        simp [flowNeeds, Region.binds] at hn
        simp only [flowAct, zwc, zwn]
        cases hq : H with
        | true =>
          try rw [hq] at hn
          repeat rw [vIf_tt] at hn
          repeat rw [vIf_ff] at hn
          repeat rw [vIf_tf] at hn
          repeat rw [vIf_ft] at hn
          try simp at hn
          try simp only [hn]
          go_wp2_with (fail)
          exact ⟨rfl, _, rfl, Below.refl _ _, by first | rfl | simp [vIf]⟩
        | false =>
          try rw [hq] at hn
          repeat rw [vIf_tt] at hn
          repeat rw [vIf_ff] at hn
          repeat rw [vIf_tf] at hn
          repeat rw [vIf_ft] at hn
          try simp at hn
          try simp only [hn]
          go_wp2_with (fail)
          exact ⟨rfl, _, rfl, Below.refl _ _, by first | rfl | simp [vIf]⟩
      · intro xs W hW hn
        obtain ⟨c0, c1, c2, c3, c4, c5, c6⟩ := HCW.out W hW
        simp [flowNeeds, Region.binds] at hn
        simp only [flowAct, zwc, zwn]
        cases hq : H with
        | true =>
          try rw [hq] at hn
          repeat rw [vIf_tt] at hn
          repeat rw [vIf_ff] at hn
          repeat rw [vIf_tf] at hn
          repeat rw [vIf_ft] at hn
          try simp at hn
          try simp only [hn]
          go_wp2_with (fail)
          exact ⟨rfl, _, rfl, Below.refl _ _, by first | rfl | simp [vIf]⟩
        | false =>
          try rw [hq] at hn
          repeat rw [vIf_tt] at hn
          repeat rw [vIf_ff] at hn
          repeat rw [vIf_tf] at hn
          repeat rw [vIf_ft] at hn
          try simp at hn
          try simp only [hn]
          go_wp2_with (fail)
          exact ⟨rfl, _, rfl, Below.refl _ _, by first | rfl | simp [vIf]⟩
      · intro xs W hW hn
        simp [flowNeeds, Region.binds] at hn
        simp only [flowAct, zwc, zwn]
        cases hq : H with
        | true =>
          try rw [hq] at hn
          repeat rw [vIf_tt] at hn
          repeat rw [vIf_ff] at hn
          repeat rw [vIf_tf] at hn
          repeat rw [vIf_ft] at hn
          try simp at hn
          try simp only [hn]
          go_wp2_with (fail)
          exact ⟨rfl, _, rfl, Below.refl _ _, by first | rfl | simp [vIf]⟩
        | false =>
          try rw [hq] at hn
          repeat rw [vIf_tt] at hn
          repeat rw [vIf_ff] at hn
          repeat rw [vIf_tf] at hn
          repeat rw [vIf_ft] at hn
          try simp at hn
          try simp only [hn]
          go_wp2_with (fail)
          exact ⟨rfl, _, rfl, Below.refl _ _, by first | rfl | simp [vIf]⟩
      · intro xs W hW hn
        simp [flowNeeds, Region.binds] at hn
        simp only [flowAct, zwc, zwn]
        cases hq : H with
        | true =>
          try rw [hq] at hn
          repeat rw [vIf_tt] at hn
          repeat rw [vIf_ff] at hn
          repeat rw [vIf_tf] at hn
          repeat rw [vIf_ft] at hn
          try simp at hn
          try simp only [hn]
          go_wp2_with (fail)
          exact ⟨rfl, _, rfl, Below.refl _ _, by first | rfl | simp [vIf]⟩
        | false =>
          try rw [hq] at hn
          repeat rw [vIf_tt] at hn
          repeat rw [vIf_ff] at hn
          repeat rw [vIf_tf] at hn
          repeat rw [vIf_ft] at hn
          try simp at hn
          try simp only [hn]
          go_wp2_with (fail)
          exact ⟨rfl, _, rfl, Below.refl _ _, by first | rfl | simp [vIf]⟩
      · intro xs W hW hn
        simp [flowNeeds, Region.binds] at hn
        simp only [flowAct, zwc, zwn]
        cases hq : H with
        | true =>
          try rw [hq] at hn
          repeat rw [vIf_tt] at hn
          repeat rw [vIf_ff] at hn
          repeat rw [vIf_tf] at hn
          repeat rw [vIf_ft] at hn
          try simp at hn
          simp only [hn]
          go_wp2_with (fail)
          exact ⟨rfl, _, rfl, Below.refl _ _, by rw [← HI9.out, hq]; first | rfl | simp⟩
        | false =>
          try rw [hq] at hn
          repeat rw [vIf_tt] at hn
          repeat rw [vIf_ff] at hn
          repeat rw [vIf_tf] at hn
          repeat rw [vIf_ft] at hn
          try simp at hn
          simp only [hn]
          go_wp2_with (fail)
          exact ⟨rfl, _, rfl, Below.refl _ _, by rw [← HI9.out, hq]; first | rfl | simp⟩
    · intro xs W hW hall
      simp only [flowAll, and_true, Nat.zero_add, Nat.reduceAdd] at hall
      obtain ⟨-,-,-,-,-,-,-,-,-,-,-,-,-,-,-,-,-,-,-,-,-,-,-,-,-,-,-,-,-,-,-,-,-,-,-,-,-,-,-,-,-,-,-,-,-,-,-,-,-,-,-,-,-,-,-,-,-,-,-,-, e60⟩ := hall
      simp only [flowAct, zwc, zwn]
      simp only [e60]
      have HB3 := Lib.hid (HB2.out.trans (hW.mono HB2.out.size))
      have HR3 := Lib.hid (heap_below HR2.out hW)
      clear e60 hW HB2 HR2 HCW HSG HVG HZZ HA9 HBb9 HC9 HD9 HE9 HF9 HG9 HH9 HI9 hq1 hq2 hq3 hq4 hq6 hq9 hq10
      rename_i W3i
      obtain ⟨W3, hW3⟩ : ∃ X, W = X := ⟨_, rfl⟩
      rw [hW3] at HB3 HR3 ⊢
      clear hW3
      cases HD with
      | true =>
        have HRR := Lib.hid (H1a.out (by first | rfl | trivial))
        clear H1a H2a H3a
        go_wp2
        go_ret
        exact ⟨by rw [HRR.out]; rfl, HB3.out⟩
      | false =>
        have H2b := Lib.hid (H2a.out (by first | rfl | trivial))
        have H3b := Lib.hid (H3a.out (by first | rfl | trivial))
        clear H1a H2a H3a
        go_wp2
        go_loopw [6] (fun i wr => ∃ k : Nat, k ≤ m ∧ i = .int .i64 (k : Int) ∧ (∀ j, j < k → wAt n1 l j = true) ∧ Below w.heap.size w wr ∧ wr.heap[B]? = some (.cells #[.int .i64 site, .int .i64 seq, .int .i64 n, .int .i64 s, .int .i64 a, .int .i64 b, .slice x2 m cap2] 95 (0, 0))) (fun i _ => m - (intOf i).toNat)
        case atStart => exact ⟨0, by omega, rfl, fun j hj => by omega, HB3.out, HR3.out⟩
        case round =>
          clear HB3 HR3
          obtain ⟨k, hk, rfl, ha, hB, hr⟩ := hrel
          obtain ⟨c0, c1, c2, c3, c4, c5, c6⟩ := ch_cells hr
          have HA := Lib.hid ha
          have HBr := Lib.hid hB
          have HRr := Lib.hid hr
          clear ha hB hr
          by_cases hlt : k < m
          · have hki : (k : Int) < (m : Int) := by omega
            have hkc : (k : Int) < (cap2 : Int) := by omega
            obtain ⟨bk, off, rfl, hat⟩ := HL.out.place hlt
            have hxs := HXS.out _ (wr_mem (k := k) (by rw [hll]; exact hlt))
            have hwa : wAt n1 l k = (mayS n1 (l.getD k Wr.zero) && (decide (k = 0) || aheadS (l.getD (k - 1) Wr.zero) (l.getD k Wr.zero))) := rfl
            have HWA := Lib.hid hwa
            have HPL := Lib.hid (fun (j : Nat) (hj : j < m) => HL.out.place hj)
            obtain ⟨y, hy⟩ : ∃ y, l.getD k Wr.zero = y := ⟨_, rfl⟩
            rw [hy] at hat hxs HWA
            obtain ⟨kx, ix, gx, vx⟩ := y
            simp only at hat hxs
            have hwc := fun W => rwrite_c (w := W) (x := x) hle1 hmax1 kx ix gx vx hxs.1 hxs.2
            obtain ⟨q, hq⟩ : ∃ z, mayS n1 ⟨kx, ix, gx, vx⟩ = z := ⟨_, rfl⟩
            rw [hq] at HWA
            simp only [hq] at hwc
            have HWC := Lib.hid hwc
            have HPW := Lib.hid (fun W (h : Below wr.heap.size wr W) => hat W (HBr.out.trans (h.mono HBr.out.size)))
            have HCL := Lib.hid (fun W (h : Below wr.heap.size wr W) => ch_cells (heap_below HRr.out h))
            have HY := Lib.hid hy
            clear hat hxs hwa hwc hq hy
            go_upto_region 9 with (fail)
            clear c0 c1 c2 c3 c4 c5 c6
            cases q with
            | false =>
              have HRR := Lib.hid (H2b.out k hlt (by rw [HWA.out]; rfl))
              clear HWA
              refine wp_region_flow [none,none,none,none,none,none,none,none,none,none,none,none,none,none,none,none,none,none,none,none,none,none,none,none,none,none,none,none,none,none,none,none,none,none,none,none,none,none,none,none,none,none,none,none,none,none,none,none,none,none,none,none,none,none,none,none,none,none,none,none,none,none,none,none,none,none,none,none,none,none,none,none,none,none,none,none,none,none,none,none, some 0, some 1, some 2, some 3, some 4, some 5, some 6, some 7, some 8, some 9, some 10, some 11, some 12, some 13, some 14, some 15, some 16, some 17, some 18, some 19, some 20, some 21, some 22, some 23, some 24, some 25, some 26] (fun i => [u80, u81, u82, u83, u84, u85, u86, u87, u88, u89, u90, u91, u92, u93, u94, u95, u96, u97, u98, u99, u100, u101, u102, u103, u104, u105, u106].getD i undef) [(fun v _ => v = .slice x n1 cap), (fun v _ => v = .pointer (some ⟨B, 6, none⟩)), (fun v _ => v = .slice (some ⟨bk, off, none⟩) m cap2), (fun v _ => v = .int .i64 (k : Int)), (fun v _ => v = .pointer (some ⟨bk, off + k * 4, none⟩)), (fun v _ => v = .agg #[.string (text kx), .int .i64 ix, .bool gx, .string (text vx)]), (fun v _ => v = .bool false), (fun v _ => v = .bool true), (fun v _ => v = .bool true), (fun v _ => v = undef), (fun v _ => v = undef), (fun v _ => v = undef), (fun v _ => v = undef), (fun v _ => v = undef), (fun v _ => v = undef), (fun v _ => v = undef), (fun v _ => v = undef), (fun v _ => v = undef), (fun v _ => v = undef), (fun v _ => v = undef), (fun v _ => v = undef), (fun v _ => v = undef), (fun v _ => v = undef), (fun v _ => v = undef), (fun v _ => v = undef), (fun v _ => v = undef), (fun v _ => v = .bool true)] (by kernel_rfl) (by kernel_rfl) rfl rfl rfl ?_ ?_ ?_
              · intro g hg v X Y hX hY hv
                simp only [List.mem_cons, List.not_mem_nil, or_false] at hg
                rcases hg with rfl | rfl | rfl | rfl | rfl | rfl | rfl | rfl | rfl | rfl | rfl | rfl | rfl | rfl | rfl | rfl | rfl | rfl | rfl | rfl | rfl | rfl | rfl | rfl | rfl | rfl | rfl
                all_goals first
                  | exact hv
                  | exact hv.kept hY
              · simp only [flowOps, and_true]
                refine ⟨?_,?_,?_,?_,?_,?_,?_,?_,?_,?_,?_,?_,?_,?_,?_,?_,?_,?_,?_,?_,?_,?_,?_,?_,?_,?_,?_⟩
                · intro xs W hW hn
                  simp only [flowAct, zwc, zwn]
                  go_wp2_with (fail)
                  exact ⟨rfl, _, rfl, Below.refl _ _, rfl⟩
                · intro xs W hW hn
                  simp only [flowAct, zwc, zwn]
                  go_wp2_with (fail)
                  exact ⟨rfl, _, rfl, Below.refl _ _, rfl⟩
                · intro xs W hW hn
                  obtain ⟨c0, c1, c2, c3, c4, c5, c6⟩ := HCL.out W hW
                  simp [flowNeeds, Region.binds] at hn
                  simp only [flowAct, zwc, zwn]
                  try simp only [hn]
                  go_wp2_with (fail)
                  exact ⟨rfl, _, rfl, Below.refl _ _, rfl⟩
                · intro xs W hW hn
                  simp only [flowAct, zwc, zwn]
                  go_wp2_with (fail)
                  exact ⟨rfl, _, rfl, Below.refl _ _, rfl⟩
                · intro xs W hW hn
                  simp [flowNeeds, Region.binds] at hn
                  simp only [flowAct, zwc, zwn]
                  try simp only [hn]
                  go_wp2_with (fail)
                  exact ⟨rfl, _, rfl, Below.refl _ _, rfl⟩
                · intro xs W hW hn
                  obtain ⟨p0, p1, p2, p3⟩ := HPW.out W hW
                  simp [flowNeeds, Region.binds] at hn
                  simp only [flowAct, zwc, zwn]
                  try simp only [hn]
                  go_wp2_with (fail)
                  exact ⟨rfl, _, rfl, Below.refl _ _, rfl⟩
                · intro xs W hW hn
                  simp [flowNeeds, Region.binds] at hn
                  simp only [flowAct, zwc, zwn]
                  simp only [hn]
                  go_wp2_with (go_at_call 115; (with_reducible refine (HWC.out _).mono ?_); rintro e9 w9 ⟨rfl, hb9⟩)
                  exact ⟨rfl, _, rfl, hb9, rfl⟩
                · intro xs W hW hn
                  simp [flowNeeds, Region.binds] at hn
                  simp only [flowAct, zwc, zwn]
                  try simp only [hn]
                  go_wp2_with (fail)
                  exact ⟨rfl, _, rfl, Below.refl _ _, rfl⟩
                · intro xs W hW hn
                  simp [flowNeeds, Region.binds] at hn
                  simp only [flowAct, zwc, zwn]
                  try simp only [hn]
                  go_wp2_with (fail)
                  exact ⟨rfl, _, rfl, Below.refl _ _, rfl⟩
                · intro xs W hW hn
                  simp [flowNeeds, Region.binds] at hn
                  simp only [flowAct, zwc, zwn]
                  try simp only [hn]
                  go_wp2_with (fail)
                  exact ⟨rfl, _, rfl, Below.refl _ _, rfl⟩
                · intro xs W hW hn
                  simp [flowNeeds, Region.binds] at hn
                  simp only [flowAct, zwc, zwn]
                  try simp only [hn]
                  go_wp2_with (fail)
                  exact ⟨rfl, _, rfl, Below.refl _ _, rfl⟩
                · intro xs W hW hn
                  simp [flowNeeds, Region.binds] at hn
                  simp only [flowAct, zwc, zwn]
                  try simp only [hn]
                  go_wp2_with (fail)
                  exact ⟨rfl, _, rfl, Below.refl _ _, rfl⟩
                · intro xs W hW hn
                  simp [flowNeeds, Region.binds] at hn
                  simp only [flowAct, zwc, zwn]
                  try simp only [hn]
                  go_wp2_with (fail)
                  exact ⟨rfl, _, rfl, Below.refl _ _, rfl⟩
                · intro xs W hW hn
                  simp [flowNeeds, Region.binds] at hn
                  simp only [flowAct, zwc, zwn]
                  try simp only [hn]
                  go_wp2_with (fail)
                  exact ⟨rfl, _, rfl, Below.refl _ _, rfl⟩
                · intro xs W hW hn
                  simp [flowNeeds, Region.binds] at hn
                  simp only [flowAct, zwc, zwn]
                  try simp only [hn]
                  go_wp2_with (fail)
                  exact ⟨rfl, _, rfl, Below.refl _ _, rfl⟩
                · intro xs W hW hn
                  simp [flowNeeds, Region.binds] at hn
                  simp only [flowAct, zwc, zwn]
                  try simp only [hn]
                  go_wp2_with (fail)
                  exact ⟨rfl, _, rfl, Below.refl _ _, rfl⟩
                · intro xs W hW hn
                  simp [flowNeeds, Region.binds] at hn
                  simp only [flowAct, zwc, zwn]
                  try simp only [hn]
                  go_wp2_with (fail)
                  exact ⟨rfl, _, rfl, Below.refl _ _, rfl⟩
                · intro xs W hW hn
                  simp [flowNeeds, Region.binds] at hn
                  simp only [flowAct, zwc, zwn]
                  try simp only [hn]
                  go_wp2_with (fail)
                  exact ⟨rfl, _, rfl, Below.refl _ _, rfl⟩
                · intro xs W hW hn
                  simp [flowNeeds, Region.binds] at hn
                  simp only [flowAct, zwc, zwn]
                  try simp only [hn]
                  go_wp2_with (fail)
                  exact ⟨rfl, _, rfl, Below.refl _ _, rfl⟩
                · intro xs W hW hn
                  simp [flowNeeds, Region.binds] at hn
                  simp only [flowAct, zwc, zwn]
                  try simp only [hn]
                  go_wp2_with (fail)
                  exact ⟨rfl, _, rfl, Below.refl _ _, rfl⟩
                · intro xs W hW hn
                  simp [flowNeeds, Region.binds] at hn
                  simp only [flowAct, zwc, zwn]
                  try simp only [hn]
                  go_wp2_with (fail)
                  exact ⟨rfl, _, rfl, Below.refl _ _, rfl⟩
                · intro xs W hW hn
                  simp [flowNeeds, Region.binds] at hn
                  simp only [flowAct, zwc, zwn]
                  try simp only [hn]
                  go_wp2_with (fail)
                  exact ⟨rfl, _, rfl, Below.refl _ _, rfl⟩
                · intro xs W hW hn
                  simp [flowNeeds, Region.binds] at hn
                  simp only [flowAct, zwc, zwn]
                  try simp only [hn]
                  go_wp2_with (fail)
                  exact ⟨rfl, _, rfl, Below.refl _ _, rfl⟩
                · intro xs W hW hn
                  simp [flowNeeds, Region.binds] at hn
                  simp only [flowAct, zwc, zwn]
                  try simp only [hn]
                  go_wp2_with (fail)
                  exact ⟨rfl, _, rfl, Below.refl _ _, rfl⟩
                · intro xs W hW hn
                  simp [flowNeeds, Region.binds] at hn
                  simp only [flowAct, zwc, zwn]
                  try simp only [hn]
                  go_wp2_with (fail)
                  exact ⟨rfl, _, rfl, Below.refl _ _, rfl⟩
                · intro xs W hW hn
                  simp [flowNeeds, Region.binds] at hn
                  simp only [flowAct, zwc, zwn]
                  try simp only [hn]
                  go_wp2_with (fail)
                  exact ⟨rfl, _, rfl, Below.refl _ _, rfl⟩
                · intro xs W hW hn
                  simp [flowNeeds, Region.binds] at hn
                  simp only [flowAct, zwc, zwn]
                  try simp only [hn]
                  go_wp2_with (fail)
                  exact ⟨rfl, _, rfl, Below.refl _ _, rfl⟩
              · intro xs W hW hall
                simp only [flowAll, and_true, Nat.zero_add, Nat.reduceAdd] at hall
                obtain ⟨-,-,-,-,-,-,-,-,-,-,-,-,-,-,-,-,-,-,-,-,-,-,-,-,-,-, e26⟩ := hall
                simp only [flowAct, zwc, zwn]
                simp only [e26]
                go_wp2
                go_ret
                exact ⟨by rw [HRR.out]; rfl, HBr.out.trans (hW.mono HBr.out.size)⟩
            | true =>
              by_cases hk0 : k = 0
              · subst hk0
                have HAN := Lib.hid (show ∀ j, j < 0 + 1 → wAt n1 l j = true from fun j hj => by
                  obtain rfl : j = 0 := by omega
                  rw [HWA.out]; rfl)
                have hpz := HPW.out
                simp only [Nat.zero_mul, Nat.add_zero] at hpz
                have HPZ := Lib.hid hpz
                clear HWA hpz HPW
                refine wp_region_flow [none,none,none,none,none,none,none,none,none,none,none,none,none,none,none,none,none,none,none,none,none,none,none,none,none,none,none,none,none,none,none,none,none,none,none,none,none,none,none,none,none,none,none,none,none,none,none,none,none,none,none,none,none,none,none,none,none,none,none,none,none,none,none,none,none,none,none,none,none,none,none,none,none,none,none,none,none,none,none,none, some 0, some 1, some 2, some 3, some 4, some 5, some 6, some 7, some 8, some 9, some 10, some 11, some 12, some 13, some 14, some 15, some 16, some 17, some 18, some 19, some 20, some 21, some 22, some 23, some 24, some 25, some 26] (fun i => [u80, u81, u82, u83, u84, u85, u86, u87, u88, u89, u90, u91, u92, u93, u94, u95, u96, u97, u98, u99, u100, u101, u102, u103, u104, u105, u106].getD i undef) [(fun v _ => v = .slice x n1 cap), (fun v _ => v = .pointer (some ⟨B, 6, none⟩)), (fun v _ => v = .slice (some ⟨bk, off, none⟩) m cap2), (fun v _ => v = .int .i64 0), (fun v _ => v = .pointer (some ⟨bk, off, none⟩)), (fun v _ => v = .agg #[.string (text kx), .int .i64 ix, .bool gx, .string (text vx)]), (fun v _ => v = .bool true), (fun v _ => v = .bool false), (fun v _ => v = .bool false), (fun v _ => v = .int .i64 0), (fun v _ => v = .bool false), (fun v _ => v = .bool false), (fun v _ => v = undef), (fun v _ => v = undef), (fun v _ => v = undef), (fun v _ => v = undef), (fun v _ => v = undef), (fun v _ => v = undef), (fun v _ => v = undef), (fun v _ => v = undef), (fun v _ => v = undef), (fun v _ => v = undef), (fun v _ => v = undef), (fun v _ => v = undef), (fun v _ => v = undef), (fun v _ => v = .bool false), (fun v _ => v = .bool false)] (by kernel_rfl) (by kernel_rfl) rfl rfl rfl ?_ ?_ ?_
                · intro g hg v X Y hX hY hv
                  simp only [List.mem_cons, List.not_mem_nil, or_false] at hg
                  rcases hg with rfl | rfl | rfl | rfl | rfl | rfl | rfl | rfl | rfl | rfl | rfl | rfl | rfl | rfl | rfl | rfl | rfl | rfl | rfl | rfl | rfl | rfl | rfl | rfl | rfl | rfl | rfl
                  all_goals first
                    | exact hv
                    | exact hv.kept hY
                · simp only [flowOps, and_true]
                  refine ⟨?_,?_,?_,?_,?_,?_,?_,?_,?_,?_,?_,?_,?_,?_,?_,?_,?_,?_,?_,?_,?_,?_,?_,?_,?_,?_,?_⟩
                  · intro xs W hW hn
                    simp only [flowAct, zwc, zwn]
                    go_wp2_with (fail)
                    exact ⟨rfl, _, rfl, Below.refl _ _, rfl⟩
                  · intro xs W hW hn
                    simp only [flowAct, zwc, zwn]
                    go_wp2_with (fail)
                    exact ⟨rfl, _, rfl, Below.refl _ _, rfl⟩
                  · intro xs W hW hn
                    obtain ⟨c0, c1, c2, c3, c4, c5, c6⟩ := HCL.out W hW
                    simp [flowNeeds, Region.binds] at hn
                    simp only [flowAct, zwc, zwn]
                    try simp only [hn]
                    go_wp2_with (fail)
                    exact ⟨rfl, _, rfl, Below.refl _ _, rfl⟩
                  · intro xs W hW hn
                    simp only [flowAct, zwc, zwn]
                    go_wp2_with (fail)
                    exact ⟨rfl, _, rfl, Below.refl _ _, rfl⟩
                  · intro xs W hW hn
                    simp [flowNeeds, Region.binds] at hn
                    simp only [flowAct, zwc, zwn]
                    try simp only [hn]
                    go_wp2_with (fail)
                    exact ⟨rfl, _, rfl, Below.refl _ _, rfl⟩
                  · intro xs W hW hn
                    obtain ⟨p0, p1, p2, p3⟩ := HPZ.out W hW
                    simp [flowNeeds, Region.binds] at hn
                    simp only [flowAct, zwc, zwn]
                    try simp only [hn]
                    go_wp2_with (fail)
                    exact ⟨rfl, _, rfl, Below.refl _ _, rfl⟩
                  · intro xs W hW hn
                    simp [flowNeeds, Region.binds] at hn
                    simp only [flowAct, zwc, zwn]
                    simp only [hn]
                    go_wp2_with (go_at_call 115; (with_reducible refine (HWC.out _).mono ?_); rintro e9 w9 ⟨rfl, hb9⟩)
                    exact ⟨rfl, _, rfl, hb9, rfl⟩
                  · intro xs W hW hn
                    simp [flowNeeds, Region.binds] at hn
                    simp only [flowAct, zwc, zwn]
                    try simp only [hn]
                    go_wp2_with (fail)
                    exact ⟨rfl, _, rfl, Below.refl _ _, rfl⟩
                  · intro xs W hW hn
                    simp [flowNeeds, Region.binds] at hn
                    simp only [flowAct, zwc, zwn]
                    try simp only [hn]
                    go_wp2_with (fail)
                    exact ⟨rfl, _, rfl, Below.refl _ _, rfl⟩
                  · intro xs W hW hn
                    simp [flowNeeds, Region.binds] at hn
                    simp only [flowAct, zwc, zwn]
                    try simp only [hn]
                    go_wp2_with (fail)
                    exact ⟨rfl, _, rfl, Below.refl _ _, rfl⟩
                  · intro xs W hW hn
                    simp [flowNeeds, Region.binds] at hn
                    simp only [flowAct, zwc, zwn]
                    try simp only [hn]
                    go_wp2_with (fail)
                    exact ⟨rfl, _, rfl, Below.refl _ _, rfl⟩
                  · intro xs W hW hn
                    simp [flowNeeds, Region.binds] at hn
                    simp only [flowAct, zwc, zwn]
                    try simp only [hn]
                    go_wp2_with (fail)
                    exact ⟨rfl, _, rfl, Below.refl _ _, rfl⟩
                  · intro xs W hW hn
                    simp [flowNeeds, Region.binds] at hn
                    simp only [flowAct, zwc, zwn]
                    try simp only [hn]
                    go_wp2_with (fail)
                    exact ⟨rfl, _, rfl, Below.refl _ _, rfl⟩
                  · intro xs W hW hn
                    simp [flowNeeds, Region.binds] at hn
                    simp only [flowAct, zwc, zwn]
                    try simp only [hn]
                    go_wp2_with (fail)
                    exact ⟨rfl, _, rfl, Below.refl _ _, rfl⟩
                  · intro xs W hW hn
                    simp [flowNeeds, Region.binds] at hn
                    simp only [flowAct, zwc, zwn]
                    try simp only [hn]
                    go_wp2_with (fail)
                    exact ⟨rfl, _, rfl, Below.refl _ _, rfl⟩
                  · intro xs W hW hn
                    simp [flowNeeds, Region.binds] at hn
                    simp only [flowAct, zwc, zwn]
                    try simp only [hn]
                    go_wp2_with (fail)
                    exact ⟨rfl, _, rfl, Below.refl _ _, rfl⟩
                  · intro xs W hW hn
                    simp [flowNeeds, Region.binds] at hn
                    simp only [flowAct, zwc, zwn]
                    try simp only [hn]
                    go_wp2_with (fail)
                    exact ⟨rfl, _, rfl, Below.refl _ _, rfl⟩
                  · intro xs W hW hn
                    simp [flowNeeds, Region.binds] at hn
                    simp only [flowAct, zwc, zwn]
                    try simp only [hn]
                    go_wp2_with (fail)
                    exact ⟨rfl, _, rfl, Below.refl _ _, rfl⟩
                  · intro xs W hW hn
                    simp [flowNeeds, Region.binds] at hn
                    simp only [flowAct, zwc, zwn]
                    try simp only [hn]
                    go_wp2_with (fail)
                    exact ⟨rfl, _, rfl, Below.refl _ _, rfl⟩
                  · intro xs W hW hn
                    simp [flowNeeds, Region.binds] at hn
                    simp only [flowAct, zwc, zwn]
                    try simp only [hn]
                    go_wp2_with (fail)
                    exact ⟨rfl, _, rfl, Below.refl _ _, rfl⟩
                  · intro xs W hW hn
                    simp [flowNeeds, Region.binds] at hn
                    simp only [flowAct, zwc, zwn]
                    try simp only [hn]
                    go_wp2_with (fail)
                    exact ⟨rfl, _, rfl, Below.refl _ _, rfl⟩
                  · intro xs W hW hn
                    simp [flowNeeds, Region.binds] at hn
                    simp only [flowAct, zwc, zwn]
                    try simp only [hn]
                    go_wp2_with (fail)
                    exact ⟨rfl, _, rfl, Below.refl _ _, rfl⟩
                  · intro xs W hW hn
                    simp [flowNeeds, Region.binds] at hn
                    simp only [flowAct, zwc, zwn]
                    try simp only [hn]
                    go_wp2_with (fail)
                    exact ⟨rfl, _, rfl, Below.refl _ _, rfl⟩
                  · intro xs W hW hn
                    simp [flowNeeds, Region.binds] at hn
                    simp only [flowAct, zwc, zwn]
                    try simp only [hn]
                    go_wp2_with (fail)
                    exact ⟨rfl, _, rfl, Below.refl _ _, rfl⟩
                  · intro xs W hW hn
                    simp [flowNeeds, Region.binds] at hn
                    simp only [flowAct, zwc, zwn]
                    try simp only [hn]
                    go_wp2_with (fail)
                    exact ⟨rfl, _, rfl, Below.refl _ _, rfl⟩
                  · intro xs W hW hn
                    simp [flowNeeds, Region.binds] at hn
                    simp only [flowAct, zwc, zwn]
                    try simp only [hn]
                    go_wp2_with (fail)
                    exact ⟨rfl, _, rfl, Below.refl _ _, rfl⟩
                  · intro xs W hW hn
                    simp [flowNeeds, Region.binds] at hn
                    simp only [flowAct, zwc, zwn]
                    try simp only [hn]
                    go_wp2_with (fail)
                    exact ⟨rfl, _, rfl, Below.refl _ _, rfl⟩
                · intro xs W hW hall
                  simp only [flowAll, and_true, Nat.zero_add, Nat.reduceAdd] at hall
                  obtain ⟨-,-,-,-,-,-,-,-,-,-,-,-,-,-,-,-,-,-,-,-,-,-,-,-,-,-, e26⟩ := hall
                  simp only [flowAct, zwc, zwn]
                  simp only [e26]
                  go_wp2
                  go_roundw
                  case rel => exact ⟨0 + 1, by omega, by go_num, HAN.out, HBr.out.trans (hW.mono HBr.out.size), heap_below HRr.out hW⟩
                  case measure => simp [intOf]; omega
              · obtain ⟨j, rfl⟩ : ∃ j, k = j + 1 := ⟨k - 1, by omega⟩
                have hjm : j < m := by omega
                have hj0 : (0 : Int) < ((j + 1 : Nat) : Int) := by omega
                have hjc : (j : Int) < (m : Int) := by omega
                have hjc2 : (j : Int) < (cap2 : Int) := by omega
                obtain ⟨bk2, off2, e2, hat2⟩ := HPL.out j hjm
                injection e2 with e2
                injection e2 with e3 e4
                subst e3 e4
                obtain ⟨y, hy2⟩ : ∃ y, l.getD j Wr.zero = y := ⟨_, rfl⟩
                rw [show j + 1 - 1 = j from rfl, hy2] at HWA
                rw [hy2] at hat2
                obtain ⟨ky, iy, gy, vy⟩ := y
                simp only at hat2
                have hah := fun W => rahead_c ky iy gy vy kx ix gx vx W
                obtain ⟨AH, hAH⟩ : ∃ z, aheadS ⟨ky, iy, gy, vy⟩ ⟨kx, ix, gx, vx⟩ = z := ⟨_, rfl⟩
                rw [hAH] at HWA
                simp only [hAH] at hah
                have HAH := Lib.hid hah
                have HQW := Lib.hid (fun W (h : Below wr.heap.size wr W) => hat2 W (HBr.out.trans (h.mono HBr.out.size)))
                clear hat2 hah hAH hy2 hk0
                refine wp_region_flow [none,none,none,none,none,none,none,none,none,none,none,none,none,none,none,none,none,none,none,none,none,none,none,none,none,none,none,none,none,none,none,none,none,none,none,none,none,none,none,none,none,none,none,none,none,none,none,none,none,none,none,none,none,none,none,none,none,none,none,none,none,none,none,none,none,none,none,none,none,none,none,none,none,none,none,none,none,none,none,none, some 0, some 1, some 2, some 3, some 4, some 5, some 6, some 7, some 8, some 9, some 10, some 11, some 12, some 13, some 14, some 15, some 16, some 17, some 18, some 19, some 20, some 21, some 22, some 23, some 24, some 25, some 26] (fun i => [u80, u81, u82, u83, u84, u85, u86, u87, u88, u89, u90, u91, u92, u93, u94, u95, u96, u97, u98, u99, u100, u101, u102, u103, u104, u105, u106].getD i undef) [(fun v _ => v = .slice x n1 cap), (fun v _ => v = .pointer (some ⟨B, 6, none⟩)), (fun v _ => v = .slice (some ⟨bk, off, none⟩) m cap2), (fun v _ => v = .int .i64 ((j + 1 : Nat) : Int)), (fun v _ => v = .pointer (some ⟨bk, off + (j + 1) * 4, none⟩)), (fun v _ => v = .agg #[.string (text kx), .int .i64 ix, .bool gx, .string (text vx)]), (fun v _ => v = .bool true), (fun v _ => v = .bool false), (fun v _ => v = .bool false), (fun v _ => v = .int .i64 ((j + 1 : Nat) : Int)), (fun v _ => v = .bool true), (fun v _ => v = .bool true), (fun v _ => v = .pointer (some ⟨B, 6, none⟩)), (fun v _ => v = .slice (some ⟨bk, off, none⟩) m cap2), (fun v _ => v = .int .i64 ((j + 1 : Nat) : Int)), (fun v _ => v = .int .i64 (j : Int)), (fun v _ => v = .pointer (some ⟨bk, off + j * 4, none⟩)), (fun v _ => v = .agg #[.string (text ky), .int .i64 iy, .bool gy, .string (text vy)]), (fun v _ => v = .pointer (some ⟨B, 6, none⟩)), (fun v _ => v = .slice (some ⟨bk, off, none⟩) m cap2), (fun v _ => v = .int .i64 ((j + 1 : Nat) : Int)), (fun v _ => v = .pointer (some ⟨bk, off + (j + 1) * 4, none⟩)), (fun v _ => v = .agg #[.string (text kx), .int .i64 ix, .bool gx, .string (text vx)]), (fun v _ => v = .bool AH), (fun v _ => v = .bool (!AH)), (fun v _ => v = .bool (!AH)), (fun v _ => v = .bool (!AH))] (by kernel_rfl) (by kernel_rfl) rfl rfl rfl ?_ ?_ ?_
                · intro g hg v X Y hX hY hv
                  simp only [List.mem_cons, List.not_mem_nil, or_false] at hg
                  rcases hg with rfl | rfl | rfl | rfl | rfl | rfl | rfl | rfl | rfl | rfl | rfl | rfl | rfl | rfl | rfl | rfl | rfl | rfl | rfl | rfl | rfl | rfl | rfl | rfl | rfl | rfl | rfl
                  all_goals first
                    | exact hv
                    | exact hv.kept hY
                · simp only [flowOps, and_true]
                  refine ⟨?_,?_,?_,?_,?_,?_,?_,?_,?_,?_,?_,?_,?_,?_,?_,?_,?_,?_,?_,?_,?_,?_,?_,?_,?_,?_,?_⟩
                  · intro xs W hW hn
                    simp only [flowAct, zwc, zwn]
                    go_wp2_with (fail)
                    exact ⟨rfl, _, rfl, Below.refl _ _, rfl⟩
                  · intro xs W hW hn
                    simp only [flowAct, zwc, zwn]
                    go_wp2_with (fail)
                    exact ⟨rfl, _, rfl, Below.refl _ _, rfl⟩
                  · intro xs W hW hn
                    obtain ⟨c0, c1, c2, c3, c4, c5, c6⟩ := HCL.out W hW
                    simp [flowNeeds, Region.binds] at hn
                    simp only [flowAct, zwc, zwn]
                    try simp only [hn]
                    go_wp2_with (fail)
                    exact ⟨rfl, _, rfl, Below.refl _ _, rfl⟩
                  · intro xs W hW hn
                    simp only [flowAct, zwc, zwn]
                    go_wp2_with (fail)
                    exact ⟨rfl, _, rfl, Below.refl _ _, rfl⟩
                  · intro xs W hW hn
                    simp [flowNeeds, Region.binds] at hn
                    simp only [flowAct, zwc, zwn]
                    try simp only [hn]
                    go_wp2_with (fail)
                    exact ⟨rfl, _, rfl, Below.refl _ _, rfl⟩
                  · intro xs W hW hn
                    obtain ⟨p0, p1, p2, p3⟩ := HPW.out W hW
                    simp [flowNeeds, Region.binds] at hn
                    simp only [flowAct, zwc, zwn]
                    try simp only [hn]
                    go_wp2_with (fail)
                    exact ⟨rfl, _, rfl, Below.refl _ _, rfl⟩
                  · intro xs W hW hn
                    simp [flowNeeds, Region.binds] at hn
                    simp only [flowAct, zwc, zwn]
                    simp only [hn]
                    go_wp2_with (go_at_call 115; (with_reducible refine (HWC.out _).mono ?_); rintro e9 w9 ⟨rfl, hb9⟩)
                    exact ⟨rfl, _, rfl, hb9, rfl⟩
                  · intro xs W hW hn
                    simp [flowNeeds, Region.binds] at hn
                    simp only [flowAct, zwc, zwn]
                    try simp only [hn]
                    go_wp2_with (fail)
                    exact ⟨rfl, _, rfl, Below.refl _ _, rfl⟩
                  · intro xs W hW hn
                    simp [flowNeeds, Region.binds] at hn
                    simp only [flowAct, zwc, zwn]
                    try simp only [hn]
                    go_wp2_with (fail)
                    exact ⟨rfl, _, rfl, Below.refl _ _, rfl⟩
                  · intro xs W hW hn
                    simp [flowNeeds, Region.binds] at hn
                    simp only [flowAct, zwc, zwn]
                    try simp only [hn]
                    go_wp2_with (fail)
                    exact ⟨rfl, _, rfl, Below.refl _ _, rfl⟩
                  · intro xs W hW hn
                    simp [flowNeeds, Region.binds] at hn
                    simp only [flowAct, zwc, zwn]
                    simp only [hn]
                    go_wp2_with (fail)
                    exact ⟨rfl, _, rfl, Below.refl _ _, by go_num⟩
                  · intro xs W hW hn
                    simp [flowNeeds, Region.binds] at hn
                    simp only [flowAct, zwc, zwn]
                    try simp only [hn]
                    go_wp2_with (fail)
                    exact ⟨rfl, _, rfl, Below.refl _ _, rfl⟩
                  · intro xs W hW hn
                    simp [flowNeeds, Region.binds] at hn
                    simp only [flowAct, zwc, zwn]
                    try simp only [hn]
                    go_wp2_with (fail)
                    exact ⟨rfl, _, rfl, Below.refl _ _, rfl⟩
                  · intro xs W hW hn
                    obtain ⟨c0, c1, c2, c3, c4, c5, c6⟩ := HCL.out W hW
                    simp [flowNeeds, Region.binds] at hn
                    simp only [flowAct, zwc, zwn]
                    try simp only [hn]
                    go_wp2_with (fail)
                    exact ⟨rfl, _, rfl, Below.refl _ _, rfl⟩
                  · intro xs W hW hn
                    simp [flowNeeds, Region.binds] at hn
                    simp only [flowAct, zwc, zwn]
                    try simp only [hn]
                    go_wp2_with (fail)
                    exact ⟨rfl, _, rfl, Below.refl _ _, rfl⟩
                  · intro xs W hW hn
                    simp [flowNeeds, Region.binds] at hn
                    simp only [flowAct, zwc, zwn]
                    simp only [hn]
                    go_wp2_with (fail)
                    exact ⟨rfl, _, rfl, Below.refl _ _, by go_num⟩
                  · intro xs W hW hn
                    simp [flowNeeds, Region.binds] at hn
                    simp only [flowAct, zwc, zwn]
                    try simp only [hn]
                    go_wp2_with (fail)
                    exact ⟨rfl, _, rfl, Below.refl _ _, rfl⟩
                  · intro xs W hW hn
                    obtain ⟨p0, p1, p2, p3⟩ := HQW.out W hW
                    simp [flowNeeds, Region.binds] at hn
                    simp only [flowAct, zwc, zwn]
                    try simp only [hn]
                    go_wp2_with (fail)
                    exact ⟨rfl, _, rfl, Below.refl _ _, rfl⟩
                  · intro xs W hW hn
                    simp [flowNeeds, Region.binds] at hn
                    simp only [flowAct, zwc, zwn]
                    try simp only [hn]
                    go_wp2_with (fail)
                    exact ⟨rfl, _, rfl, Below.refl _ _, rfl⟩
                  · intro xs W hW hn
                    obtain ⟨c0, c1, c2, c3, c4, c5, c6⟩ := HCL.out W hW
                    simp [flowNeeds, Region.binds] at hn
                    simp only [flowAct, zwc, zwn]
                    try simp only [hn]
                    go_wp2_with (fail)
                    exact ⟨rfl, _, rfl, Below.refl _ _, rfl⟩
                  · intro xs W hW hn
                    simp [flowNeeds, Region.binds] at hn
                    simp only [flowAct, zwc, zwn]
                    try simp only [hn]
                    go_wp2_with (fail)
                    exact ⟨rfl, _, rfl, Below.refl _ _, rfl⟩
                  · intro xs W hW hn
                    simp [flowNeeds, Region.binds] at hn
                    simp only [flowAct, zwc, zwn]
                    try simp only [hn]
                    go_wp2_with (fail)
                    exact ⟨rfl, _, rfl, Below.refl _ _, rfl⟩
                  · intro xs W hW hn
                    obtain ⟨p0, p1, p2, p3⟩ := HPW.out W hW
                    simp [flowNeeds, Region.binds] at hn
                    simp only [flowAct, zwc, zwn]
                    try simp only [hn]
                    go_wp2_with (fail)
                    exact ⟨rfl, _, rfl, Below.refl _ _, rfl⟩
                  · intro xs W hW hn
                    simp [flowNeeds, Region.binds] at hn
                    simp only [flowAct, zwc, zwn]
                    simp only [hn]
                    go_wp2_with (go_at_call 116; (with_reducible refine (HAH.out _).mono ?_); rintro e9 w9 ⟨rfl, hb9⟩)
                    exact ⟨rfl, _, rfl, hb9, rfl⟩
                  · intro xs W hW hn
                    simp [flowNeeds, Region.binds] at hn
                    simp only [flowAct, zwc, zwn]
                    try simp only [hn]
                    go_wp2_with (fail)
                    exact ⟨rfl, _, rfl, Below.refl _ _, rfl⟩
                  · intro xs W hW hn
                    simp [flowNeeds, Region.binds] at hn
                    simp only [flowAct, zwc, zwn]
                    try simp only [hn]
                    go_wp2_with (fail)
                    exact ⟨rfl, _, rfl, Below.refl _ _, rfl⟩
                  · intro xs W hW hn
                    simp [flowNeeds, Region.binds] at hn
                    simp only [flowAct, zwc, zwn]
                    try simp only [hn]
                    go_wp2_with (fail)
                    exact ⟨rfl, _, rfl, Below.refl _ _, rfl⟩
                · intro xs W hW hall
                  simp only [flowAll, and_true, Nat.zero_add, Nat.reduceAdd] at hall
                  obtain ⟨-,-,-,-,-,-,-,-,-,-,-,-,-,-,-,-,-,-,-,-,-,-,-,-,-,-, e26⟩ := hall
                  simp only [flowAct, zwc, zwn]
                  simp only [e26]
                  cases AH with
                  | true =>
                    have HAN := Lib.hid (show ∀ i, i < j + 1 + 1 → wAt n1 l i = true from fun i hi => by
                      by_cases hij : i < j + 1
                      · exact HA.out i hij
                      · obtain rfl : i = j + 1 := by omega
                        rw [HWA.out]; simp)
                    go_wp2
                    go_roundw
                    case rel => exact ⟨j + 1 + 1, by omega, by go_num, HAN.out, HBr.out.trans (hW.mono HBr.out.size), heap_below HRr.out hW⟩
                    case measure => simp [intOf]; omega
                  | false =>
                    have HRR := Lib.hid (H2b.out (j + 1) hlt (by rw [HWA.out]; simp))
                    go_wp2
                    go_ret
                    exact ⟨by rw [HRR.out]; rfl, HBr.out.trans (hW.mono HBr.out.size)⟩
          · obtain rfl : m = k := by omega
            have HRR := Lib.hid (H3b.out HA.out)
            go_wp2
            go_ret
            exact ⟨by rw [HRR.out]; rfl, HBr.out⟩

  · have h0n : (P0 != 0) = true := by simpa using h0
    have HRR := Lib.hid (H0.out h0)
    clear h0 H0 H1 H2 H3
    go_wp2
    go_ret
    exact ⟨by rw [HRR.out]; rfl, HB2.out⟩
end Go.Proofs.Yteffbibmfpdenaa
end

section
namespace Go.Proofs.Yteffbibmfpdenaa
open Go.RowKit Go Go.Sort
set_option linter.unusedVariables false
set_option maxRecDepth 20000

theorem head_ok {site seq n s a b : Int} {m : Nat} (h : headBad site seq n s a b m = false) : (site = 1 ∨ site = 2) ∧ 1 ≤ seq ∧ seq ≤ 1099511627776 ∧ sgood n s = true ∧ s = site ∧ vgood a b = true ∧ (if site = 1 then a else b) = seq ∧ 1 ≤ m ∧ m ≤ 8 := by
  unfold headBad at h
  simp only [Bool.or_eq_false_iff, Bool.and_eq_false_iff, Bool.not_eq_false', bne_eq_false_iff_eq, decide_eq_false_iff_not] at h
  obtain ⟨⟨⟨⟨⟨⟨⟨⟨h1, h2⟩, h3⟩, h4⟩, h5⟩, h6⟩, h7⟩, h8⟩, h9⟩ := h
  exact ⟨h1, by omega, by omega, h4, h5, h6, h7, by omega, by omega⟩
theorem may_few {n : Nat} {c : Wr} (h : mayS n c = true) : c.k.length ≤ 32 ∧ 1 ≤ c.k.length ∧ 0 ≤ c.i ∧ c.i < (n : Int) ∧ c.v.length ≤ 64 ∧ (c.g = true → c.v = []) := by
  unfold mayS at h
  simp only [Bool.and_eq_true, decide_eq_true_eq] at h
  obtain ⟨h1, h2, h3, h4, h5⟩ := h
  have hk : ¬ c.k = [] ∧ c.k.length ≤ 32 := by
    unfold keyS at h1
    split at h1
    · cases h1
    · split at h1
      · cases h1
      · rename_i h6 h7; exact ⟨h6, by omega⟩
  refine ⟨hk.2, ?_, h2, h3, h4, fun hg => ?_⟩
  · rcases Nat.eq_zero_or_pos c.k.length with h | h
    · exact absurd (List.eq_nil_of_length_eq_zero h) hk.1
    · exact h
  · rw [hg] at h5
    simpa using h5
theorem w_at {n1 : Nat} {l : List Wr} {k : Nat} (h : wAt n1 l k = true) : mayS n1 (l.getD k Wr.zero) = true := by
  unfold wAt at h
  rw [Bool.and_eq_true] at h
  exact h.1
end Go.Proofs.Yteffbibmfpdenaa
end

section
namespace Go.Proofs.Yteffbibmfpdenaa
open Go Go.RowKit
set_option linter.unusedVariables false

section
variable {P : Program} {ops : Array Oper} {md : Region.Mode}

/-- How one operation ends: the invariant holds with it. -/
def InvEnd (Inv : (Nat → Bool) → (Nat → Value) → World → Prop) (a : Act) (o : Oper) (i : Nat) (L : Nat → Bool) (xs : Nat → Value) (e : Exit) (a' : Act) (w' : World) : Prop :=
  e = .normal ∧ ∃ v, a' = a.put o.dst v ∧ Inv (fun j => if j = i then true else L j) (fun j => if j = i then v else xs j) w'

theorem wpAny_inv {Q : Exit → Act → World → Prop} (act : (Nat → Value) → Act) (Inv : (Nat → Bool) → (Nat → Value) → World → Prop)
    (hwf : ∀ i o, ops[i]? = some o → ∀ e ∈ o.after, Region.binds md e = true → e.on < i)
    (hput : ∀ i o xs v, ops[i]? = some o → (act xs).put o.dst v = act (fun j => if j = i then v else xs j))
    (hop : ∀ i o, ops[i]? = some o → ∀ L xs w, Inv L xs w → L i = false → (∀ e ∈ o.after, Region.binds md e = true → L e.on = true) → wpList P ops (InvEnd Inv (act xs) o i L xs) [o] (act xs) w)
    (hend : ∀ L xs w, Inv L xs w → (∀ i, i < ops.size → L i = true) → Q .normal (act xs) w) :
    ∀ (f : Nat) (listed : Array Bool) (xs : Nat → Value) (w : World), Inv (fun i => listed.getD i true) xs w → listed.size = ops.size → listed.toList.count false ≤ f → wpAny P md ops Q f listed (act xs) w := by
  have hnone : ∀ (listed : Array Bool), listed.size = ops.size → Region.ready md ops listed = [] → ∀ i, i < ops.size → listed.getD i true = true := by
    intro listed hs hr i
    induction i using Nat.strongRecOn with
    | _ i ih =>
      intro hi
      cases hl : listed.getD i true with
      | true => rfl
      | false =>
        have : i ∈ Region.ready md ops listed := by
          refine mem_ready.2 ⟨hl, ops[i], by simp [hi], fun e he hb => ?_⟩
          have hlt := hwf i ops[i] (by simp [hi]) e he hb
          have h1 := ih e.on hlt (by omega)
          have h2 : e.on < listed.size := by omega
          simp only [Array.getD_eq_getD_getElem?, Array.getElem?_eq_getElem h2, Option.getD_some] at h1 ⊢
          exact h1
        rw [hr] at this
        cases this
  intro f
  induction f with
  | zero =>
    intro listed xs w hI hs hc
    have hall : ∀ i, i < ops.size → listed.getD i true = true := by
      intro i hi
      cases hl : listed.getD i true with
      | true => rfl
      | false =>
        have h2 : i < listed.size := by omega
        have h3 : listed[i] = false := by simpa [Array.getD_eq_getD_getElem?, Array.getElem?_eq_getElem h2] using hl
        have : false ∈ listed.toList := by rw [← h3]; simp
        have := List.count_pos_iff.2 this
        omega
    refine ⟨?_, hend _ xs w hI hall⟩
    cases hr : Region.ready md ops listed with
    | nil => rfl
    | cons i r =>
      have hm : i ∈ Region.ready md ops listed := by rw [hr]; simp
      obtain ⟨hun, o, ho, _⟩ := mem_ready.1 hm
      have := hall i (Array.getElem?_eq_some_iff.1 ho).1
      rw [hun] at this
      cases this
  | succ f ih =>
    intro listed xs w hI hs hc
    refine ⟨fun hr => hend _ xs w hI (hnone listed hs hr), fun i hi => ?_⟩
    obtain ⟨hun, o, ho, hall⟩ := mem_ready.1 hi
    have hilt := (Array.getElem?_eq_some_iff.1 ho).1
    have h2 : i < listed.size := by omega
    refine wpOp_of_one ho (fun a' w' h => ?_) (fun e a' w' h => h.1) (hop i o ho _ xs w hI hun fun e he hb => ?_)
    · obtain ⟨_, v, rfl, hI'⟩ := h
      rw [hput i o xs v ho]
      refine ih _ _ w' ?_ (by simpa using hs) ?_
      · have hfe : (fun j => (listed.setIfInBounds i true).getD j true) = (fun j => if j = i then true else listed.getD j true) := by
          funext j
          by_cases hji : j = i
          · subst hji
            simp [Array.getD_eq_getD_getElem?, h2]
          · rw [getD_set_ne true (Ne.symm hji), if_neg hji]
        rw [hfe]
        exact hI'
      · have h3 : listed[i] = false := by simpa [Array.getD_eq_getD_getElem?, Array.getElem?_eq_getElem h2] using hun
        have := count_set_lt listed.toList i (by simp [h2, h3])
        rw [Array.toList_setIfInBounds]
        omega
    · have h1 := hall e he hb
      have h3 : e.on < listed.size := by have := hwf i o ho e he hb; omega
      simp only [Array.getD_eq_getD_getElem?, Array.getElem?_eq_getElem h3, Option.getD_some] at h1 ⊢
      exact h1

def invNeeds (md : Region.Mode) (L : Nat → Bool) : List Edge → Prop
  | [] => True
  | e :: l => (Region.binds md e = true → L e.on = true) ∧ invNeeds md L l
theorem invNeeds_of {L : Nat → Bool} : ∀ (l : List Edge), (∀ e ∈ l, Region.binds md e = true → L e.on = true) → invNeeds md L l
  | [], _ => trivial
  | e :: l, h => ⟨h e (by simp), invNeeds_of l fun e' he => h e' (by simp [he])⟩
def invOps (P : Program) (md : Region.Mode) (ops : Array Oper) (a : Act) (srcs : List (Option Nat)) (Inv : (Nat → Bool) → (Nat → Value) → World → Prop) : List Oper → Nat → Prop
  | [], _ => True
  | o :: l, k => (∀ L xs w, Inv L xs w → L k = false → invNeeds md L o.after.toList → wpList P ops (InvEnd Inv (flowAct a srcs xs) o k L xs) [o] (flowAct a srcs xs) w) ∧ invOps P md ops a srcs Inv l (k + 1)
theorem invOps_get {a : Act} {srcs : List (Option Nat)} {Inv : (Nat → Bool) → (Nat → Value) → World → Prop} : ∀ (l : List Oper) (k : Nat), invOps P md ops a srcs Inv l k → ∀ i o, l[i]? = some o →
    ∀ L xs w, Inv L xs w → L (k + i) = false → invNeeds md L o.after.toList → wpList P ops (InvEnd Inv (flowAct a srcs xs) o (k + i) L xs) [o] (flowAct a srcs xs) w
  | [], _, _, i, o, h => by simp at h
  | o' :: l, k, hh, 0, o, h => by
    obtain rfl : o' = o := by simpa using h
    exact hh.1
  | o' :: l, k, hh, i + 1, o, h => by
    have := invOps_get l (k + 1) hh.2 i o (by simpa using h)
    rwa [show k + 1 + i = k + (i + 1) by omega] at this
theorem wp_region_inv {id : Nat} {Q : Exit → Act → World → Prop} {l : List Oper} {a : Act} {w : World} (srcs : List (Option Nat)) (xs0 : Nat → Value) (Inv : (Nat → Bool) → (Nat → Value) → World → Prop) (hm : P.follows .mixedOrders = true)
    (hB : flowB .any l.toArray srcs = true) (hl : a.tmps.size = srcs.length) (h0 : flowAct a srcs xs0 = a)
    (hI0 : ∀ L, (∀ i, i < l.length → L i = false) → Inv L xs0 { w with drawn := w.drawn + 1 })
    (hops : invOps P .any l.toArray a srcs Inv l 0)
    (hend : ∀ L xs w', Inv L xs w' → (∀ i, i < l.length → L i = true) → Q .normal (flowAct a srcs xs) w') : (Code.region id l.toArray true).wp P Q a w := by
  refine wp_region_any hm ?_
  have := wpAny_inv (P := P) (ops := l.toArray) (md := .any) (Q := Q) (flowAct a srcs) Inv
    (fun i o ho => (flowB_spec hB ho).1) (fun i o xs v ho => flowAct_put hB hl ho xs v)
    (fun i o ho L xs x hI hL hn => by
      have := invOps_get l 0 hops i o (by simpa using ho) L xs x hI (by rwa [Nat.zero_add]) (invNeeds_of _ fun e he hb => hn e (by simpa using he) hb)
      rwa [Nat.zero_add] at this)
    (fun L xs x hI hL => hend L xs x hI (fun i hi => hL i (by simpa using hi)))
    l.toArray.size (Array.replicate l.toArray.size false) xs0 { w with drawn := w.drawn + 1 } (hI0 _ fun i hi => by
      rw [Array.getD_eq_getD_getElem?, Array.getElem?_eq_getElem (by simpa using hi)]; simp) (by simp) (by simp)
  rwa [h0] at this
end
end Go.Proofs.Yteffbibmfpdenaa
end

section
namespace Go.Proofs.Yteffbibmfpdenaa
open Go.RowKit Go Go.Sort
set_option linter.unusedVariables false
set_option maxRecDepth 20000

/-- What is told of a region's values stays while memory grows, and while boxes are filled. -/
structure GSt (ty : TypeId) (G : Nat → Value → World → Prop) : Prop where
  grow : ∀ i v X Y, G i v X → Below X.heap.size X Y → G i v Y
  wrote : ∀ i v X Y q cs ds, X.heap[q]? = some (.cells ds ty (0, 0)) → Wrote q cs ty X Y → G i v X → G i v Y
/-- Where the laying of n boxes stands: m operations that tell what G says, n that make boxes, n that fill them with what operation 'sr j' told. -/
def LayG (m n : Nat) (ty : TypeId) (z : Array Value) (G : Nat → Value → World → Prop) (sr : Nat → Nat) (w0 : World) (L : Nat → Bool) (xs : Nat → Value) (w : World) : Prop :=
  Below w0.heap.size w0 w ∧ (∀ i, i < m → L i = true → G i (xs i) w) ∧
  (∀ j, j < n → L (m + j) = true → ∃ g cs, xs (m + j) = .pointer (some ⟨g, 0, none⟩) ∧ w0.heap.size ≤ g ∧ w.heap[g]? = some (.cells cs ty (0, 0)) ∧ (if L (m + n + j) = true then G (sr j) (.agg cs) w else cs = z)) ∧
  (∀ j k, j < n → k < n → j ≠ k → L (m + j) = true → L (m + k) = true → xs (m + j) ≠ xs (m + k)) ∧
  (∀ j, j < n → L (m + n + j) = true → L (m + j) = true)
section
variable {m n : Nat} {ty : TypeId} {z : Array Value} {G : Nat → Value → World → Prop} {sr : Nat → Nat} {w0 w : World} {L : Nat → Bool} {xs : Nat → Value}
theorem LayG.start (h : ∀ i, i < m + n + n → L i = false) : LayG m n ty z G sr w0 L xs { w0 with drawn := w0.drawn + 1 } := by
  have f : ∀ i, i < m + n + n → L i = true → False := fun i hi ht => by rw [h i hi] at ht; cases ht
  exact ⟨⟨rfl, rfl, rfl, Nat.le_refl _, fun _ _ => rfl⟩, fun i hi ht => (f i (by omega) ht).elim, fun j hj ht => (f _ (by omega) ht).elim, fun j k hj hk _ ht _ => (f _ (by omega) ht).elim, fun j hj ht => (f _ (by omega) ht).elim⟩
theorem LayG.below (h : LayG m n ty z G sr w0 L xs w) : Below w0.heap.size w0 w := h.1
theorem LayG.set (hs : GSt ty G) (h : LayG m n ty z G sr w0 L xs w) (i : Nat) (hi : i < m) {w' : World} (hb : Below w.heap.size w w') {v : Value} (hv : G i v w') : LayG m n ty z G sr w0 (fun j => if j = i then true else L j) (fun j => if j = i then v else xs j) w' := by
  obtain ⟨h0, h1, h2, h3, h4⟩ := h
  refine ⟨h0.trans (hb.mono h0.size), fun j hj ht => ?_, fun j hj ht => ?_, fun j k hj hk => ?_, fun j hj => ?_⟩
  · by_cases e : j = i
    · subst e; simpa using hv
    · simp only [if_neg e] at ht ⊢
      exact hs.grow _ _ _ _ (h1 j hj ht) hb
  · simp only [if_neg (show ¬ m + j = i by omega), if_neg (show ¬ m + n + j = i by omega)] at ht ⊢
    obtain ⟨g, cs, e1, e2, e3, e4⟩ := h2 j hj ht
    refine ⟨g, cs, e1, e2, heap_below e3 hb, ?_⟩
    split at e4
    · rename_i hL; rw [if_pos hL]; exact hs.grow _ _ _ _ e4 hb
    · rename_i hL; rw [if_neg hL]; exact e4
  · simp only [if_neg (show ¬ m + j = i by omega), if_neg (show ¬ m + k = i by omega)]
    exact h3 j k hj hk
  · simp only [if_neg (show ¬ m + j = i by omega), if_neg (show ¬ m + n + j = i by omega)]
    exact h4 j hj
theorem LayG.alloc (hs : GSt ty G) (h : LayG m n ty z G sr w0 L xs w) (j : Nat) (hj : j < n) {k : Nat} (hk : k = m + j) (hn : L k = false) : LayG m n ty z G sr w0 (fun i => if i = k then true else L i) (fun i => if i = k then .pointer (some ⟨w.heap.size, 0, none⟩) else xs i) (w.alloc (.cells z ty)) := by
  subst hk
  obtain ⟨h0, h1, h2, h3, h4⟩ := h
  have kb := alloc_below w (.cells z ty)
  have hf : L (m + n + j) = false := by
    cases hx : L (m + n + j) with
    | false => rfl
    | true => rw [h4 j hj hx] at hn; cases hn
  have hne : ∀ i, i < n → L (m + i) = true → xs (m + i) ≠ .pointer (some ⟨w.heap.size, 0, none⟩) := fun i hi ht => by
    obtain ⟨g, cs, e1, e2, e3, e4⟩ := h2 i hi ht
    rw [e1]
    have := (Array.getElem?_eq_some_iff.1 e3).1
    intro e
    simp at e
    try omega
  refine ⟨h0.trans (kb.mono h0.size), fun i hi ht => ?_, fun i hi ht => ?_, fun i k hi hk hne2 hti htk => ?_, fun i hi ht => ?_⟩
  · simp only [if_neg (show ¬ i = m + j by omega)] at ht ⊢
    exact hs.grow _ _ _ _ (h1 i hi ht) kb
  · by_cases e : i = j
    · subst e
      simp only [if_neg (show ¬ m + n + i = m + i by omega), hf, if_pos]
      exact ⟨_, z, rfl, h0.size, heap_alloc_new w _, by simp⟩
    · simp only [if_neg (show ¬ m + i = m + j by omega), if_neg (show ¬ m + n + i = m + j by omega)] at ht ⊢
      obtain ⟨g, cs, e1, e2, e3, e4⟩ := h2 i hi ht
      refine ⟨g, cs, e1, e2, heap_below e3 kb, ?_⟩
      split at e4
      · rename_i hL; rw [if_pos hL]; exact hs.grow _ _ _ _ e4 kb
      · rename_i hL; rw [if_neg hL]; exact e4
  · by_cases e1 : i = j
    · subst e1
      simp only [if_neg (show ¬ m + k = m + i by omega), if_pos] at htk ⊢
      exact (hne k hk htk).symm
    · by_cases e2 : k = j
      · subst e2
        simp only [if_neg (show ¬ m + i = m + k by omega), if_pos] at hti ⊢
        exact hne i hi hti
      · simp only [if_neg (show ¬ m + i = m + j by omega), if_neg (show ¬ m + k = m + j by omega)] at hti htk ⊢
        exact h3 i k hi hk hne2 hti htk
  · by_cases e : i = j
    · subst e; simp
    · simp only [if_neg (show ¬ m + i = m + j by omega), if_neg (show ¬ m + n + i = m + j by omega)] at ht ⊢
      exact h4 i hi ht
theorem LayG.store (hs : GSt ty G) (h : LayG m n ty z G sr w0 L xs w) (j : Nat) (hj : j < n) {k s : Nat} (hk : k = m + j) (hse : s = m + n + j) (hL : L k = true) {g : Nat} (hg : xs k = .pointer (some ⟨g, 0, none⟩)) {cs : Array Value} (hv : G (sr j) (.agg cs) w) {w2 : World} (hw : Wrote g cs ty w w2) (v : Value) :
    LayG m n ty z G sr w0 (fun i => if i = s then true else L i) (fun i => if i = s then v else xs i) w2 := by
  subst hk hse
  obtain ⟨h0, h1, h2, h3, h4⟩ := h
  obtain ⟨g', ds, e1, hB, hgd, -⟩ := h2 j hj hL
  obtain rfl : g' = g := by
    rw [hg] at e1
    injection e1 with e1
    injection e1 with e1
    injection e1 with e1
    exact e1.symm
  have hl := Nat.le_of_lt (Array.getElem?_eq_some_iff.1 hgd).1
  refine ⟨h0.trans (hw.below hB hl), fun i hi ht => ?_, fun i hi ht => ?_, fun i k hi hk hne hti htk => ?_, fun i hi ht => ?_⟩
  · simp only [if_neg (show ¬ i = m + n + j by omega)] at ht ⊢
    exact hs.wrote _ _ _ _ _ _ _ hgd hw (h1 i hi ht)
  · simp only [if_neg (show ¬ m + i = m + n + j by omega)] at ht ⊢
    by_cases e : i = j
    · subst e
      simp only [if_pos]
      exact ⟨g', cs, hg, hB, hw.cell, hs.wrote _ _ _ _ _ _ _ hgd hw hv⟩
    · simp only [if_neg (show ¬ m + n + i = m + n + j by omega)]
      obtain ⟨g2, c2, f1, f2, f3, f4⟩ := h2 i hi ht
      have hne := h3 i j hi hj e ht hL
      have hg2 : g2 ≠ g' := by rintro rfl; exact hne (f1.trans hg.symm)
      refine ⟨g2, c2, f1, f2, (hw.rest g2 (Array.getElem?_eq_some_iff.1 f3).1 hg2).trans f3, ?_⟩
      split at f4
      · rename_i hL2; rw [if_pos hL2]; exact hs.wrote _ _ _ _ _ _ _ hgd hw f4
      · rename_i hL2; rw [if_neg hL2]; exact f4
  · simp only [if_neg (show ¬ m + i = m + n + j by omega), if_neg (show ¬ m + k = m + n + j by omega)] at hti htk ⊢
    exact h3 i k hi hk hne hti htk
  · by_cases e : i = j
    · subst e
      simp only [if_neg (show ¬ m + i = m + n + i by omega)]
      exact hL
    · simp only [if_neg (show ¬ m + i = m + n + j by omega), if_neg (show ¬ m + n + i = m + n + j by omega)] at ht ⊢
      exact h4 i hi ht
theorem LayG.other (h : LayG m n ty z G sr w0 L xs w) (i : Nat) (hi : m + n + n ≤ i) (v : Value) : LayG m n ty z G sr w0 (fun j => if j = i then true else L j) (fun j => if j = i then v else xs j) w := by
  obtain ⟨h0, h1, h2, h3, h4⟩ := h
  refine ⟨h0, fun j hj ht => ?_, fun j hj ht => ?_, fun j k hj hk => ?_, fun j hj => ?_⟩
  · simp only [if_neg (show ¬ j = i by omega)] at ht ⊢; exact h1 j hj ht
  · simp only [if_neg (show ¬ m + j = i by omega), if_neg (show ¬ m + n + j = i by omega)] at ht ⊢; exact h2 j hj ht
  · simp only [if_neg (show ¬ m + j = i by omega), if_neg (show ¬ m + k = i by omega)]; exact h3 j k hj hk
  · simp only [if_neg (show ¬ m + j = i by omega), if_neg (show ¬ m + n + j = i by omega)]; exact h4 j hj
end
/-- A write put into the rows that it is the next of. -/
def rowPut (n1 : Nat) (R : List (List UInt8 × List Cl)) (k : List UInt8) (i : Nat) (x : Cl) : List (List UInt8 × List Cl) :=
  if R.length = 0 ∨ (R.getD (R.length - 1) ([], [])).1 ≠ k then R ++ [(k, (zerosC n1).set i x)] else R.set (R.length - 1) (k, (R.getD (R.length - 1) ([], [])).2.set i x)
def wrowN (gs : List Grp) (n s a b : Int) (ws : List Wr) : Nat → List (List UInt8 × List Cl)
  | 0 => []
  | k + 1 => rowPut gs.length (wrowN gs n s a b ws k) (ws.getD k Wr.zero).k (ws.getD k Wr.zero).i.toNat (cofS (gs.getD (ws.getD k Wr.zero).i.toNat ([], 0)).2 n s a b (ws.getD k Wr.zero).g (ws.getD k Wr.zero).v).1
/-- The rows that a change makes, and an error. -/
def chrowsS (gs : List Grp) (site seq n s a b : Int) (ws : List Wr) : List (List UInt8 × List Cl) × Int := if chgoodS gs site seq n s a b ws = 0 then (wrowN gs n s a b ws ws.length, 0) else ([], chgoodS gs site seq n s a b ws)
theorem rowPut_few (n1 : Nat) (R : List (List UInt8 × List Cl)) (k : List UInt8) (i : Nat) (x : Cl) : (rowPut n1 R k i x).length ≤ R.length + 1 := by
  unfold rowPut
  split
  · simp
  · simp
theorem wrow_few (gs : List Grp) (n s a b : Int) (ws : List Wr) : ∀ k, (wrowN gs n s a b ws k).length ≤ k
  | 0 => Nat.le_refl _
  | k + 1 => Nat.le_trans (rowPut_few _ _ _ _ _) (Nat.succ_le_succ (wrow_few gs n s a b ws k))
theorem prs_at {L : List Rw} {j : Nat} (hj : j < L.length) : (L.map Rw.pr).getD j ([], []) = (L.getD j Rw.zero).pr := by
  rw [List.getD_eq_getElem?_getD, List.getD_eq_getElem?_getD, List.getElem?_map, List.getElem?_eq_getElem hj]; rfl
/-- The rows behind a store into the last one: a new one, or the one there was. -/
theorem put_new {n1 : Nat} {L : List Rw} {R : List (List UInt8 × List Cl)} {k : List UInt8} {i : Nat} {x : Cl} {u : Value} (hR : L.map Rw.pr = R) (h : L.length = 0 ∨ (L.getD (L.length - 1) Rw.zero).k ≠ k) : ((L ++ [(⟨k, u, zerosC n1⟩ : Rw)]).set L.length (⟨k, u, (zerosC n1).set i x⟩ : Rw)).map Rw.pr = rowPut n1 R k i x := by
  subst hR
  unfold rowPut
  rw [List.length_map]
  have hc : L.length = 0 ∨ ((L.map Rw.pr).getD (L.length - 1) ([], [])).1 ≠ k := by
    rcases h with h | h
    · exact .inl h
    · by_cases e : L.length = 0
      · exact .inl e
      · right; rw [prs_at (by omega)]; exact h
  rw [if_pos hc, List.map_set, List.map_append]
  rw [List.set_append_right _ _ (by simp)]
  simp [Rw.pr]
theorem put_old {n1 p : Nat} {L : List Rw} {R : List (List UInt8 × List Cl)} {k : List UInt8} {i : Nat} {x : Cl} (hR : L.map Rw.pr = R) (hp : L.length = p + 1) (h : (L.getD p Rw.zero).k = k) : (L.set p (⟨k, (L.getD p Rw.zero).u, (L.getD p Rw.zero).cs.set i x⟩ : Rw)).map Rw.pr = rowPut n1 R k i x := by
  subst hR
  unfold rowPut
  rw [List.length_map, hp, Nat.add_sub_cancel, prs_at (by omega), if_neg (fun e => e.elim (by omega) (fun e => e h)), List.map_set]
  rfl
end Go.Proofs.Yteffbibmfpdenaa
end

