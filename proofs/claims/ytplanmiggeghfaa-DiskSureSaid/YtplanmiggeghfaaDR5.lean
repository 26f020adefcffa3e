/-
  Lists of structs of a call's own: a cell of one of them is stored. No program's type is named here.
-/
import Derived.Test.YtplanmiggeghfaaDR4
namespace Go.Proofs.Ytplanmiggeghfaa
open Go.RowKit Go Go.Sort
set_option linter.unusedVariables false
set_option maxRecDepth 20000

section
variable {α : Type} {sz : Nat} {arr : α → Array Value} {z : α}
theorem lCells_set (hs : ∀ c, (arr c).size = sz) (j : Nat) (hj : j < sz) (x : Value) (c' : α) : ∀ (l : List α) (i : Nat), i < l.length → (arr c').toList = (arr (l.getD i z)).toList.set j x → lCells arr (l.set i c') = (lCells arr l).set (i * sz + j) x
  | [], i, hi, _ => by simp at hi
  | c :: r, 0, hi, harr => by
    have h0 : (arr c').toList = (arr c).toList.set j x := harr
    unfold lCells
    rw [List.set_cons_zero, List.flatMap_cons, List.flatMap_cons, h0, Nat.zero_mul, Nat.zero_add, List.set_append_left _ _ (by rw [Array.length_toList, hs]; exact hj)]
  | c :: r, i + 1, hi, harr => by
    have ih := lCells_set hs j hj x c' r i (by simpa using hi) harr
    unfold lCells at ih ⊢
    rw [List.set_cons_succ, List.flatMap_cons, List.flatMap_cons, ih, List.set_append_right _ _ (by rw [Array.length_toList, hs, Nat.succ_mul]; omega)]
    congr 2
    rw [Array.length_toList, hs, Nat.succ_mul]
    omega
theorem OwnL.store {ty : TypeId} {w : World} {B g n cap : Nat} {l : List α} (hs : ∀ c, (arr c).size = sz) (h : OwnL sz ty arr w B (.slice (some ⟨g, 0, none⟩) n cap) l) {i j : Nat} (hi : i < l.length) (hj : j < sz) (x : Value) (c' : α) (harr : (arr c').toList = (arr (l.getD i z)).toList.set j x) :
    OwnL sz ty arr (w.setCell ⟨g, i * sz + j, none⟩ x) B (.slice (some ⟨g, 0, none⟩) n cap) (l.set i c') := by
  obtain ⟨h1, ⟨ev, hn⟩ | ⟨g', cap', cur, ev, hB, hg, hnc, hcm, hcs, htake⟩⟩ := h
  · cases ev
  · injection ev with e1 e2 e3
    injection e1 with e1
    injection e1 with e1
    subst e1 e2 e3
    unfold OwnL
    rw [List.length_set]
    refine ⟨by rw [lCells_length hs, List.length_set], .inr ⟨g, cap, cur.setIfInBounds (i * sz + j) x, rfl, hB, ?_, hnc, hcm, by simpa using hcs, ?_⟩⟩
    · rw [heap_setCell_same w g (i * sz + j) cur ty x hg]
    · rw [lCells_set hs j hj x c' l i hi harr, ← htake, Array.toList_setIfInBounds, List.take_set]
end
end Go.Proofs.Ytplanmiggeghfaa
