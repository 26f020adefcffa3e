/-
  FRAMES: the plain mathematics. No program is named here.
-/
import Derived.Test.YticcmhgahbnboaaDoorCR
import Derived.Test.YticcmhgahbnboaaDoorBM
namespace Go.Proofs.YticcmhgahbnboaaDoor
open Go.RowKit
set_option linter.unusedVariables false

/-- A body's frame; nothing, if the body is too long. -/
def wrapS (l : List UInt8) : List UInt8 := if 1048576 < l.length then [] else fixS (([181] ++ numB (l.length : Int)) ++ l)
theorem wrapS_short {l : List UInt8} (h : l.length ≤ 1048576) : wrapS l = fixS (([181] ++ numB (l.length : Int)) ++ l) := by unfold wrapS; rw [if_neg (by omega)]
theorem wrapS_long {l : List UInt8} (h : 1048576 < l.length) : wrapS l = [] := by unfold wrapS; rw [if_pos h]

/-- Where the body of the frame with which bytes begin starts, where it ends, and the error. -/
def findS (l : List UInt8) : Int × Int × Int :=
  if l = [] then (0, 0, 10)
  else if ¬ byt8 l 0 = 181 then (0, 0, 30)
  else if ¬ (getS (l.drop 1)).2.2 = 0 then (0, 0, (getS (l.drop 1)).2.2)
  else if 1048576 < (getS (l.drop 1)).1 then (0, 0, 3)
  else if (l.length : Int) < 1 + (getS (l.drop 1)).2.1 + (getS (l.drop 1)).1 + 4 then (0, 0, 10)
  else if rightS (l.take (1 + (getS (l.drop 1)).2.1 + (getS (l.drop 1)).1 + 4).toNat) = false then (0, 0, 31)
  else (1 + (getS (l.drop 1)).2.1, 1 + (getS (l.drop 1)).2.1 + (getS (l.drop 1)).1, 0)

theorem findS_nil : findS [] = (0, 0, 10) := rfl
theorem findS_mark {l : List UInt8} (h : 0 < l.length) (hm : ¬ byt8 l 0 = 181) : findS l = (0, 0, 30) := by
  unfold findS; rw [if_neg (by intro h0; rw [h0] at h; simp at h), if_pos hm]
theorem findS_get {l : List UInt8} (h : 0 < l.length) (hm : byt8 l 0 = 181) {gn gk ge : Int} (hg : getS (l.drop 1) = (gn, gk, ge)) (he : ¬ ge = 0) : findS l = (0, 0, ge) := by
  unfold findS; rw [if_neg (by intro h0; rw [h0] at h; simp at h), if_neg (by simpa using hm), hg, if_pos (by simpa using he)]
theorem findS_long {l : List UInt8} (h : 0 < l.length) (hm : byt8 l 0 = 181) {gn gk : Int} (hg : getS (l.drop 1) = (gn, gk, 0)) (hl : 1048576 < gn) : findS l = (0, 0, 3) := by
  unfold findS; rw [if_neg (by intro h0; rw [h0] at h; simp at h), if_neg (by simpa using hm), hg, if_neg (by simp), if_pos hl]
theorem findS_cut {l : List UInt8} (h : 0 < l.length) (hm : byt8 l 0 = 181) {gn gk : Int} (hg : getS (l.drop 1) = (gn, gk, 0)) (hl : ¬ 1048576 < gn) (hc : (l.length : Int) < 1 + gk + gn + 4) : findS l = (0, 0, 10) := by
  unfold findS; rw [if_neg (by intro h0; rw [h0] at h; simp at h), if_neg (by simpa using hm), hg, if_neg (by simp), if_neg hl, if_pos hc]
theorem findS_sum {l : List UInt8} (h : 0 < l.length) (hm : byt8 l 0 = 181) {gn gk : Nat} (hg : getS (l.drop 1) = ((gn : Int), (gk : Int), 0)) (hl : ¬ 1048576 < gn) (hc : 1 + gk + gn + 4 ≤ l.length) (hr : rightS (l.take (1 + gk + gn + 4)) = false) : findS l = (0, 0, 31) := by
  unfold findS; rw [if_neg (by intro h0; rw [h0] at h; simp at h), if_neg (by simpa using hm), hg, if_neg (by simp), if_neg (by simp only []; omega), if_neg (by simp only []; omega), if_pos (by simp only []; rw [show (1 + (gk : Int) + (gn : Int) + 4).toNat = 1 + gk + gn + 4 by omega]; exact hr)]
theorem findS_good {l : List UInt8} (h : 0 < l.length) (hm : byt8 l 0 = 181) {gn gk : Nat} (hg : getS (l.drop 1) = ((gn : Int), (gk : Int), 0)) (hl : ¬ 1048576 < gn) (hc : 1 + gk + gn + 4 ≤ l.length) (hr : rightS (l.take (1 + gk + gn + 4)) = true) : findS l = (((1 + gk : Nat) : Int), ((1 + gk + gn : Nat) : Int), 0) := by
  unfold findS
  rw [if_neg (by intro h0; rw [h0] at h; simp at h), if_neg (by simpa using hm), hg, if_neg (by simp), if_neg (by simp only []; omega), if_neg (by simp only []; omega), if_neg (by simp only []; rw [show (1 + (gk : Int) + (gn : Int) + 4).toNat = 1 + gk + gn + 4 by omega, hr]; simp)]
  simp

/-- What the bytes of a length can tell. -/
theorem getS_cases (l : List UInt8) : (∃ ge, getS l = (0, 0, ge) ∧ ¬ ge = 0) ∨ (∃ gn gk : Nat, getS l = ((gn : Int), (gk : Int), 0) ∧ 1 ≤ gk ∧ gk ≤ l.length ∧ gn ≤ 4611686018427387903) := by
  by_cases h : (getS l).2.2 = 0
  · obtain ⟨q, hq, h1, h2, h3, h4⟩ := getS_ok l h
    refine .inr ⟨(getS l).1.toNat, q, ?_, h1, h2, by omega⟩
    rw [show (((getS l).1.toNat : Nat) : Int) = (getS l).1 by omega, ← hq, ← h]
  · obtain ⟨h1, h2⟩ := getS_bad l h
    refine .inl ⟨(getS l).2.2, ?_, h⟩
    rw [← h1]
    rw [show (getS l).1 = (getS l).2.1 by rw [h1, h2]]
    rw [show (getS l).2.1 = (getS l).1 by rw [h1, h2]] 
    exact Prod.ext rfl (Prod.ext (by rw [h1, h2]) rfl)

/-- All that a find can tell. -/
theorem findS_cases (l : List UInt8) : (∃ e, findS l = (0, 0, e) ∧ ¬ e = 0) ∨ (∃ s t : Nat, findS l = ((s : Int), (t : Int), 0) ∧ 2 ≤ s ∧ s ≤ t ∧ t + 4 ≤ l.length) := by
  by_cases h0 : l = []
  · subst h0; exact .inl ⟨10, rfl, by decide⟩
  have h : 0 < l.length := by cases l with | nil => exact absurd rfl h0 | cons c r => simp
  by_cases hm : byt8 l 0 = 181
  · rcases getS_cases (l.drop 1) with ⟨ge, hg, he⟩ | ⟨gn, gk, hg, h1, h2, h3⟩
    · exact .inl ⟨ge, findS_get h hm hg he, he⟩
    · by_cases hl : 1048576 < gn
      · exact .inl ⟨3, findS_long h hm hg (by omega), by decide⟩
      · by_cases hc : 1 + gk + gn + 4 ≤ l.length
        · cases hr : rightS (l.take (1 + gk + gn + 4)) with
          | false => exact .inl ⟨31, findS_sum h hm hg hl hc hr, by decide⟩
          | true => exact .inr ⟨1 + gk, 1 + gk + gn, findS_good h hm hg hl hc hr, by omega, by omega, by omega⟩
        · exact .inl ⟨10, findS_cut h hm hg (by omega) (by omega), by decide⟩
  · exact .inl ⟨30, findS_mark h hm, by decide⟩

/-- The body of the frame with which bytes begin, how many bytes it has, and the error. -/
def openS (l : List UInt8) : List UInt8 × Int × Int :=
  if (findS l).2.2 = 0 then ((l.drop (findS l).1.toNat).take ((findS l).2.1.toNat - (findS l).1.toNat), (findS l).2.1 + 4, 0) else ([], 0, (findS l).2.2)
theorem openS_bad {l : List UInt8} {e : Int} (h : findS l = (0, 0, e)) (he : ¬ e = 0) : openS l = ([], 0, e) := by unfold openS; rw [h, if_neg (by simpa using he)]
theorem openS_good {l : List UInt8} {s t : Nat} (h : findS l = ((s : Int), (t : Int), 0)) : openS l = ((l.drop s).take (t - s), ((t + 4 : Nat) : Int), 0) := by
  unfold openS; rw [h, if_pos (by simp)]; simp
end Go.Proofs.YticcmhgahbnboaaDoor
