/-
  A message's blocks, in plain mathematics: what a state holds behind bytes that came.
-/
import Derived.Test.YticcmhgahbnboaaDoorSB
namespace Go.Proofs.YticcmhgahbnboaaDoor
open Go.RowKit Go
set_option linter.unusedVariables false

/-- The numbers behind k whole blocks of a message. -/
def blocksS (l : List UInt8) : Nat → Rd
  | 0 => startS
  | k + 1 => blockS (blocksS l k) ((l.drop (64 * k)).take 64)
theorem blocksS_append (l m : List UInt8) (k : Nat) (h : 64 * k ≤ l.length) : blocksS (l ++ m) k = blocksS l k := by
  induction k with
  | zero => rfl
  | succ k ih =>
    unfold blocksS
    rw [ih (by omega), List.drop_append_of_le_length (by omega), List.take_append_of_le_length (by rw [List.length_drop]; omega)]
/-- What a state holds behind bytes that came. -/
structure Came (r : Rd) (wt : List UInt8) (l : List UInt8) : Prop where
  sum : r = blocksS l (l.length / 64)
  wait : wt.take (l.length % 64) = l.drop (64 * (l.length / 64))
theorem Came.nil (wt : List UInt8) : Came startS wt [] := ⟨rfl, by simp⟩
/-- The bytes that wait, with more of them. -/
def layW (wt : List UInt8) (o : Nat) (m : List UInt8) : List UInt8 := wt.take o ++ (m ++ wt.drop (o + m.length))
theorem layW_length (wt : List UInt8) (o : Nat) (m : List UInt8) (h : o + m.length ≤ wt.length) : (layW wt o m).length = wt.length := by
  simp [layW]; omega
theorem Came.more {r : Rd} {wt l m : List UInt8} (h : Came r wt l) (hw : wt.length = 64) (hm : l.length % 64 + m.length < 64) : Came r (layW wt (l.length % 64) m) (l ++ m) := by
  have h1 : (l ++ m).length / 64 = l.length / 64 := by rw [List.length_append]; omega
  have h2 : (l ++ m).length % 64 = l.length % 64 + m.length := by rw [List.length_append]; omega
  refine ⟨?_, ?_⟩
  · rw [h1, blocksS_append _ _ _ (by omega)]; exact h.sum
  · rw [h1, h2, List.drop_append_of_le_length (by omega), ← h.wait]
    unfold layW
    rw [← List.append_assoc, List.take_left' (by simp; omega)]
theorem Came.full {r : Rd} {wt l m : List UInt8} (h : Came r wt l) (hw : wt.length = 64) (hm : l.length % 64 + m.length = 64) :
    Came (blockS r (layW wt (l.length % 64) m)) (layW wt (l.length % 64) m) (l ++ m) := by
  have h1 : (l ++ m).length / 64 = l.length / 64 + 1 := by rw [List.length_append]; omega
  have h2 : (l ++ m).length % 64 = 0 := by rw [List.length_append]; omega
  have h3 : layW wt (l.length % 64) m = ((l ++ m).drop (64 * (l.length / 64))).take 64 := by
    rw [List.drop_append_of_le_length (by omega), ← h.wait]
    unfold layW
    rw [List.drop_eq_nil_of_le (by omega), List.append_nil, List.take_of_length_le (l := wt.take (l.length % 64) ++ m) (by simp; omega)]
  refine ⟨?_, ?_⟩
  · rw [h1, blocksS, blocksS_append _ _ _ (by omega), ← h.sum, ← h3]
  · rw [h1, h2, List.take_zero, List.drop_eq_nil_of_le (by rw [List.length_append]; omega)]

/-- The numbers behind a whole message. -/
def lastS (l : List UInt8) : Rd := blocksS (l ++ tailS l.length) ((l ++ tailS l.length).length / 64)
/-- The digest of a message. -/
def hashS (l : List UInt8) : List UInt8 := (lastS l).list.flatMap four
theorem Came.last {r : Rd} {wt l : List UInt8} (h : Came r wt (l ++ tailS l.length)) : r = lastS l := h.sum
end Go.Proofs.YticcmhgahbnboaaDoor
