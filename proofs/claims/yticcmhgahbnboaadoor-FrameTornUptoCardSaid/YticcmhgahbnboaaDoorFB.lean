/-
  FRAMES, BACK AND TURNED: what was wrapped is opened; what was turned is not: the plain mathematics. No program is named here.
-/
import Derived.Test.YticcmhgahbnboaaDoorFM
import Derived.Test.YticcmhgahbnboaaDoorCU
namespace Go.Proofs.YticcmhgahbnboaaDoor
open Go.RowKit
set_option linter.unusedVariables false

/-- What stands ahead of a body. -/
def headS (n : Nat) : List UInt8 := [181] ++ numB (n : Int)
theorem headS_size (n : Nat) (h : n ≤ 1048576) : ∃ q : Nat, sizeS (n : Int) = (q : Int) ∧ (headS n).length = 1 + q ∧ 1 ≤ q ∧ q ≤ 8 := by
  obtain ⟨k, hs, hk, _⟩ := sizeS_cases (n := (n : Int)) (by omega) (by omega)
  refine ⟨k, hs, ?_, by omega, by omega⟩
  unfold headS numB
  rw [hs]
  simp [numK_length]; omega
theorem wrapS_head {l : List UInt8} (h : l.length ≤ 1048576) : wrapS l = fixS (headS l.length ++ l) := wrapS_short h
theorem head_mark (n : Nat) (y : List UInt8) : byt8 (headS n ++ y) 0 = 181 := rfl
theorem head_get (n : Nat) (y : List UInt8) (h : n ≤ 1048576) {q : Nat} (hq : sizeS (n : Int) = (q : Int)) : getS ((headS n ++ y).drop 1) = ((n : Int), (q : Int), 0) := by
  rw [← hq]
  exact getS_num (n : Int) y (by omega) (by omega)

theorem wrapS_length {l : List UInt8} (h : l.length ≤ 1048576) : (wrapS l).length = (headS l.length).length + l.length + 4 := by
  rw [wrapS_head h, fixS_length, List.length_append]
theorem fixS_eq (l : List UInt8) : fixS l = l ++ four (sumS l) := rfl

theorem openS_wrap (l t : List UInt8) (h : l.length ≤ 1048576) : openS (wrapS l ++ t) = (l, ((wrapS l).length : Int), 0) := by
  obtain ⟨q, hq, hl, q1, q8⟩ := headS_size l.length h
  have hwl := wrapS_length h
  have hX : wrapS l ++ t = headS l.length ++ (l ++ (four (sumS (headS l.length ++ l)) ++ t)) := by rw [wrapS_head h, fixS_eq]; simp only [List.append_assoc]
  have hpos : 0 < (wrapS l ++ t).length := by rw [List.length_append]; omega
  have ht : (wrapS l ++ t).take (1 + q + l.length + 4) = wrapS l := by
    rw [List.take_append_of_le_length (by omega), List.take_of_length_le (by omega)]
  have hg := head_get l.length (l ++ (four (sumS (headS l.length ++ l)) ++ t)) h hq
  rw [← hX] at hg
  have hf := findS_good hpos (by rw [hX]; exact head_mark _ _) hg (by omega) (by rw [List.length_append]; omega) (by rw [ht, wrapS_head h]; exact rightS_fix _)
  rw [openS_good hf, show 1 + q + l.length - (1 + q) = l.length by omega, hX, ← hl, List.drop_left, List.take_left]
  rw [hwl]

theorem burstK_take (F : List UInt8) (k : Nat) (e : W32) (i m : Nat) (h : m ≤ k) : (burstK F k e i).take m = F.take m := by
  unfold burstK
  apply List.ext_getElem (by simp)
  intro j h1 h2
  simp only [List.length_take, List.length_mapIdx] at h1
  simp only [List.getElem_take, List.getElem_mapIdx]
  rw [if_neg (by omega)]

theorem openS_turned (l : List UInt8) (h : l.length ≤ 1048576) (j : Nat) (hj : j ≤ l.length) (e : W32) (he : e ≠ 0#32) : openS (burstK (wrapS l) ((headS l.length).length + j) e 4) = ([], 0, 31) := by
  obtain ⟨q, hq, hl, q1, q8⟩ := headS_size l.length h
  have hwl := wrapS_length h
  obtain ⟨Y, hY⟩ : ∃ Y, burstK (wrapS l) ((headS l.length).length + j) e 4 = Y := ⟨_, rfl⟩
  have hYl : Y.length = (wrapS l).length := by rw [← hY, burstK_length]
  have hYt : Y.take (1 + q) = headS l.length := by
    rw [← hY, burstK_take _ _ _ _ _ (by omega), wrapS_head h, fixS_eq, List.append_assoc, ← hl, List.take_left]
  have hYh : Y = headS l.length ++ Y.drop (1 + q) := by
    have := List.take_append_drop (1 + q) Y
    rw [hYt] at this; exact this.symm
  have hbad : rightS Y = false := by
    rw [← hY, wrapS_head h]
    exact burst_bad _ _ e (by rw [List.length_append]; omega) he
  have hg := head_get l.length (Y.drop (1 + q)) h hq
  rw [← hYh] at hg
  have hpos : 0 < Y.length := by omega
  have hf := findS_sum hpos (by rw [hYh]; exact head_mark _ _) hg (by omega) (by omega) (by rw [List.take_of_length_le (by omega)]; exact hbad)
  rw [hY]
  exact openS_bad hf (by decide)
end Go.Proofs.YticcmhgahbnboaaDoor
